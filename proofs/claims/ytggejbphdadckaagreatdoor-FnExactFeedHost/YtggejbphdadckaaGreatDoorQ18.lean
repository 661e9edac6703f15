/- Texts of this seat, joined. -/
import Derived.Deep.RegionHeld3
import Derived.Test.YtggejbphdadckaaGreatDoorQ13
import Derived.Test.YtggejbphdadckaaGreatDoorQ17
namespace Go.Proofs.YtggejbphdadckaaGreatDoor
open Go.RowKit
set_option linter.unusedVariables false

theorem nums_range {w : World} {base g n cap : Nat} {zs : List Int} (h : Nums w base (.slice (some ⟨g, 0, none⟩) n cap) zs) (m : Nat) (hm : n = m) {cs : List Value} (hc : ∀ j v, cs[j]? = some v → j < m ∧ v = .int .i64 (gt zs j)) : w.rangeAt g 0 cs := fun j v hv => by
  obtain ⟨h1, rfl⟩ := hc j v hv
  rw [Nat.zero_add]
  exact h.cell h.len j (by omega)
/-- The worlds behind W in which block q alone may have turned; its cells are there. -/
def Sk (W : World) (q : Nat) (w' : World) : Prop := Mq (fun k => k = q) W w' ∧ w'.there q 0 34
theorem there_below {w w' : World} {q n : Nat} (h : w.there q 0 n) (hq : q < w.heap.size) (b : Below w.heap.size w w') : w'.there q 0 n := fun j hj => by
  obtain ⟨h1, h2⟩ := h j hj
  refine ⟨?_, ?_⟩
  · rw [b.cell (p := ⟨q, 0 + j, none⟩) hq]; exact h1
  · rw [b.frozen (p := ⟨q, 0 + j, none⟩) hq]; exact h2
theorem Vb.there {w : World} {q : Nat} {cs : Array Value} {t : TypeId} (h : Vb w q cs t) (n : Nat) (hn : n ≤ cs.size) : w.there q 0 n := fun j hj => by
  refine ⟨?_, h.free _⟩
  rw [h.cell (0 + j) (v := cs[0 + j]'(by omega)) (Array.getElem?_eq_getElem (by omega))]
  rfl
theorem Sk.step {W w w' : World} {q : Nat} (h : Sk W q w) (hq : q < W.heap.size) (b : Below w.heap.size w w') : Sk W q w' :=
  ⟨h.1.trans (Mq.of (below_grown b none) fun k e => by cases e), there_below h.2 (Nat.lt_of_lt_of_le hq h.1.size) b⟩
theorem mq_cells (q : Nat) : ∀ (vs : List Value) (w : World) (o : Nat), Mq (fun k => k = q) w (w.setCells q o vs)
  | [], w, o => Mq.refl _ _
  | v :: vs, w, o => ((Mq.refl (fun k => k = q) w).set ⟨q, o, none⟩ v rfl).trans (mq_cells q vs _ (o + 1))
theorem Sk.set {W w : World} {q : Nat} (h : Sk W q w) (vs : List Value) : Sk W q (w.setCells q 0 vs) := ⟨h.1.trans (mq_cells q vs w 0), World.there_setCells h.2 _ _ _⟩
theorem cells16 (zs : List Int) : ∀ (j : Nat) (v : Value), ([.int .i64 (gt zs 0), .int .i64 (gt zs 1), .int .i64 (gt zs 2), .int .i64 (gt zs 3), .int .i64 (gt zs 4), .int .i64 (gt zs 5), .int .i64 (gt zs 6), .int .i64 (gt zs 7), .int .i64 (gt zs 8), .int .i64 (gt zs 9), .int .i64 (gt zs 10), .int .i64 (gt zs 11), .int .i64 (gt zs 12), .int .i64 (gt zs 13), .int .i64 (gt zs 14), .int .i64 (gt zs 15)] : List Value)[j]? = some v → j < 16 ∧ v = .int .i64 (gt zs j) := by
  intro j v hv
  have hj : j < 16 := by have := (List.getElem?_eq_some_iff.1 hv).1; simpa using this
  refine ⟨hj, ?_⟩
  have e : j = 0 ∨ j = 1 ∨ j = 2 ∨ j = 3 ∨ j = 4 ∨ j = 5 ∨ j = 6 ∨ j = 7 ∨ j = 8 ∨ j = 9 ∨ j = 10 ∨ j = 11 ∨ j = 12 ∨ j = 13 ∨ j = 14 ∨ j = 15 := by omega
  rcases e with rfl | rfl | rfl | rfl | rfl | rfl | rfl | rfl | rfl | rfl | rfl | rfl | rfl | rfl | rfl | rfl <;> exact (Option.some.inj hv).symm
theorem cells11 (zs : List Int) : ∀ (j : Nat) (v : Value), ([.int .i64 (gt zs 0), .int .i64 (gt zs 1), .int .i64 (gt zs 2), .int .i64 (gt zs 3), .int .i64 (gt zs 4), .int .i64 (gt zs 5), .int .i64 (gt zs 6), .int .i64 (gt zs 7), .int .i64 (gt zs 8), .int .i64 (gt zs 9), .int .i64 (gt zs 10)] : List Value)[j]? = some v → j < 11 ∧ v = .int .i64 (gt zs j) := by
  intro j v hv
  have hj : j < 11 := by have := (List.getElem?_eq_some_iff.1 hv).1; simpa using this
  refine ⟨hj, ?_⟩
  have e : j = 0 ∨ j = 1 ∨ j = 2 ∨ j = 3 ∨ j = 4 ∨ j = 5 ∨ j = 6 ∨ j = 7 ∨ j = 8 ∨ j = 9 ∨ j = 10 := by omega
  rcases e with rfl | rfl | rfl | rfl | rfl | rfl | rfl | rfl | rfl | rfl | rfl <;> exact (Option.some.inj hv).symm

set_option maxRecDepth 20000 in
set_option maxHeartbeats 8000000 in
theorem i_machineX (r c i o : Value) (H : Ht) (b : Nat) (w : World) (h : Hm w b r c i o H) (hr : H.regs.length = 16) (hc : H.csr.length = 11) (hi : H.inn.length ≤ 1000) (ho : H.out.length ≤ 1000) :
    Calls Tryz.prog 60 #[.agg #[r, .int .i64 H.pc, c, .bool H.halted, .bool H.waiting, .bool H.rung, .int .i64 H.done, i, o]] w fun e w' => ∃ i' o', e = .returned (.agg (mca H i' o')) ∧ Nums w' w.heap.size i' H.inn ∧ Nums w' w.heap.size o' H.out ∧ Apt i' o' ∧ Below w.heap.size w w' ∧ ∃ bo, w.heap.size ≤ bo ∧ bo ≤ w'.heap.size ∧ Nums w' bo o' H.out ∧ ∀ k, i'.ownBlock = some k → k < bo := by
  have HM : Hid (Hm w b r c i o H) := h
  obtain ⟨a0, k0, rfl, _, _, g0⟩ := h.r.shape
  obtain ⟨a1, k1, rfl, _, _, g1⟩ := h.c.shape
  obtain ⟨a2, k2, rfl, _⟩ := h.i.shape
  obtain ⟨a3, k3, rfl, _⟩ := h.o.shape
  obtain ⟨y0, rfl⟩ := g0 (by omega)
  obtain ⟨y1, rfl⟩ := g1 (by omega)
  have HL : Hid (H.inn.length ≤ 1000 ∧ H.out.length ≤ 1000) := ⟨hi, ho⟩
  have HR : Hid (H.regs.length = 16 ∧ H.csr.length = 11) := ⟨hr, hc⟩
  rw [hr] at HM ⊢
  rw [hc] at HM ⊢
  generalize H.inn.length = n2 at *
  generalize H.out.length = n3 at *
  clear h g0 g1 hr hc hi ho
  generalize hW : (w.alloc (.cells #[.slice (some ⟨y0, 0, none⟩) 16 k0, .int .i64 H.pc, .slice (some ⟨y1, 0, none⟩) 11 k1, .bool H.halted, .bool H.waiting, .bool H.rung, .int .i64 H.done, .slice a2 n2 k2, .slice a3 n3 k3] 60)).alloc (.cells #[.int .i64 0, .int .i64 0, .int .i64 0, .int .i64 0, .int .i64 0, .int .i64 0, .int .i64 0, .int .i64 0, .int .i64 0, .int .i64 0, .int .i64 0, .int .i64 0, .int .i64 0, .int .i64 0, .int .i64 0, .int .i64 0, .int .i64 0, .int .i64 0, .int .i64 0, .int .i64 0, .int .i64 0, .int .i64 0, .int .i64 0, .int .i64 0, .int .i64 0, .int .i64 0, .int .i64 0, .int .i64 0, .bool false, .bool false, .bool false, .int .i64 0, .slice none 0 0, .slice none 0 0] 107) = W
  have B0 : Hid (Below w.heap.size w W) := by show Below _ _ _; rw [← hW]; exact al (al (Below.refl _ _) _) _
  obtain ⟨s, hS⟩ : ∃ s, w.heap.size = s := ⟨_, rfl⟩
  have HS : Hid (w.heap.size = s) := hS
  have SZ : Hid (W.heap.size = s + 2) := by show _ = _; rw [← hW, ← hS]; simp
  have VA : Hid (Vb W s #[.slice (some ⟨y0, 0, none⟩) 16 k0, .int .i64 H.pc, .slice (some ⟨y1, 0, none⟩) 11 k1, .bool H.halted, .bool H.waiting, .bool H.rung, .int .i64 H.done, .slice a2 n2 k2, .slice a3 n3 k3] 60) := by
    show Vb _ _ _ _; rw [← hW, ← hS]; exact (Vb.new _ _ _).push _
  have VR : Hid (Vb W (s + 1) #[.int .i64 0, .int .i64 0, .int .i64 0, .int .i64 0, .int .i64 0, .int .i64 0, .int .i64 0, .int .i64 0, .int .i64 0, .int .i64 0, .int .i64 0, .int .i64 0, .int .i64 0, .int .i64 0, .int .i64 0, .int .i64 0, .int .i64 0, .int .i64 0, .int .i64 0, .int .i64 0, .int .i64 0, .int .i64 0, .int .i64 0, .int .i64 0, .int .i64 0, .int .i64 0, .int .i64 0, .int .i64 0, .bool false, .bool false, .bool false, .int .i64 0, .slice none 0 0, .slice none 0 0] 107) := by
    have z1 : s + 1 = (w.alloc (.cells #[.slice (some ⟨y0, 0, none⟩) 16 k0, .int .i64 H.pc, .slice (some ⟨y1, 0, none⟩) 11 k1, .bool H.halted, .bool H.waiting, .bool H.rung, .int .i64 H.done, .slice a2 n2 k2, .slice a3 n3 k3] 60)).heap.size := by rw [← hS]; simp
    show Vb _ _ _ _; rw [← hW, z1]; exact Vb.new _ _ _
  have MW : Hid (Hm W b _ _ _ _ H) := HM.out.keep B0.out
  have OW : Hid (∀ k, Own4 (.slice (some ⟨y0, 0, none⟩) 16 k0) (.slice (some ⟨y1, 0, none⟩) 11 k1) (.slice a2 n2 k2) (.slice a3 n3 k3) k → ¬ k = s + 1) := fun k e f => by have := (HM.out.own k e).2; have := HS.out; omega
  have MS : Hid (∀ w', Sk W (s + 1) w' → Hm w' b _ _ _ _ H) := fun w' hs => hs.1.hm MW.out OW.out
  have VS : Hid (∀ w', Sk W (s + 1) w' → Vb w' s #[.slice (some ⟨y0, 0, none⟩) 16 k0, .int .i64 H.pc, .slice (some ⟨y1, 0, none⟩) 11 k1, .bool H.halted, .bool H.waiting, .bool H.rung, .int .i64 H.done, .slice a2 n2 k2, .slice a3 n3 k3] 60) := fun w' hs => hs.1.vb VA.out (by omega)
  have q0 : ∀ w', Sk W (s + 1) w' → w'.cell? ⟨s, 0, none⟩ = some (.slice (some ⟨y0, 0, none⟩) 16 k0) := fun w' hs => (VS.out w' hs).cell 0 rfl
  have q1 : ∀ w', Sk W (s + 1) w' → w'.cell? ⟨s, 1, none⟩ = some (.int .i64 H.pc) := fun w' hs => (VS.out w' hs).cell 1 rfl
  have q2 : ∀ w', Sk W (s + 1) w' → w'.cell? ⟨s, 2, none⟩ = some (.slice (some ⟨y1, 0, none⟩) 11 k1) := fun w' hs => (VS.out w' hs).cell 2 rfl
  have q3 : ∀ w', Sk W (s + 1) w' → w'.cell? ⟨s, 3, none⟩ = some (.bool H.halted) := fun w' hs => (VS.out w' hs).cell 3 rfl
  have q4 : ∀ w', Sk W (s + 1) w' → w'.cell? ⟨s, 4, none⟩ = some (.bool H.waiting) := fun w' hs => (VS.out w' hs).cell 4 rfl
  have q5 : ∀ w', Sk W (s + 1) w' → w'.cell? ⟨s, 5, none⟩ = some (.bool H.rung) := fun w' hs => (VS.out w' hs).cell 5 rfl
  have q6 : ∀ w', Sk W (s + 1) w' → w'.cell? ⟨s, 6, none⟩ = some (.int .i64 H.done) := fun w' hs => (VS.out w' hs).cell 6 rfl
  have q7 : ∀ w', Sk W (s + 1) w' → w'.cell? ⟨s, 7, none⟩ = some (.slice a2 n2 k2) := fun w' hs => (VS.out w' hs).cell 7 rfl
  have q8 : ∀ w', Sk W (s + 1) w' → w'.cell? ⟨s, 8, none⟩ = some (.slice a3 n3 k3) := fun w' hs => (VS.out w' hs).cell 8 rfl
  have ha0 : ∀ w', (Instr.arrayAt 102 (.slice (some ⟨y0, 0, none⟩) 16 k0)).run Tryz.prog w' = .ok (.pointer (some ⟨y0, 0, none⟩)) w' := fun w' => by simp [Instr.arrayAt, Sem.run_bind, run_underlying Tryz.underlying102]
  have ha1 : ∀ w', (Instr.arrayAt 103 (.slice (some ⟨y1, 0, none⟩) 11 k1)).run Tryz.prog w' = .ok (.pointer (some ⟨y1, 0, none⟩)) w' := fun w' => by simp [Instr.arrayAt, Sem.run_bind, run_underlying Tryz.underlying103]
  have R0 : Hid (∀ w', Sk W (s + 1) w' → w'.rangeAt y0 0 [.int .i64 (gt H.regs 0), .int .i64 (gt H.regs 1), .int .i64 (gt H.regs 2), .int .i64 (gt H.regs 3), .int .i64 (gt H.regs 4), .int .i64 (gt H.regs 5), .int .i64 (gt H.regs 6), .int .i64 (gt H.regs 7), .int .i64 (gt H.regs 8), .int .i64 (gt H.regs 9), .int .i64 (gt H.regs 10), .int .i64 (gt H.regs 11), .int .i64 (gt H.regs 12), .int .i64 (gt H.regs 13), .int .i64 (gt H.regs 14), .int .i64 (gt H.regs 15)]) := fun w' hs => nums_range (MS.out w' hs).r 16 rfl (cells16 _)
  have R1 : Hid (∀ w', Sk W (s + 1) w' → w'.rangeAt y1 0 [.int .i64 (gt H.csr 0), .int .i64 (gt H.csr 1), .int .i64 (gt H.csr 2), .int .i64 (gt H.csr 3), .int .i64 (gt H.csr 4), .int .i64 (gt H.csr 5), .int .i64 (gt H.csr 6), .int .i64 (gt H.csr 7), .int .i64 (gt H.csr 8), .int .i64 (gt H.csr 9), .int .i64 (gt H.csr 10)]) := fun w' hs => nums_range (MS.out w' hs).c 11 rfl (cells11 _)
  have hst : ∀ w', Sk W (s + 1) w' → ∀ (xa : Option Addr) (xn xk : Nat) (ya : Option Addr) (yn yk : Nat), (Instr.storeAt 107 (.pointer (some ⟨s + 1, 0, none⟩)) (.agg #[.int .i64 (gt H.regs 0), .int .i64 (gt H.regs 1), .int .i64 (gt H.regs 2), .int .i64 (gt H.regs 3), .int .i64 (gt H.regs 4), .int .i64 (gt H.regs 5), .int .i64 (gt H.regs 6), .int .i64 (gt H.regs 7), .int .i64 (gt H.regs 8), .int .i64 (gt H.regs 9), .int .i64 (gt H.regs 10), .int .i64 (gt H.regs 11), .int .i64 (gt H.regs 12), .int .i64 (gt H.regs 13), .int .i64 (gt H.regs 14), .int .i64 (gt H.regs 15), .int .i64 H.pc, .int .i64 (gt H.csr 0), .int .i64 (gt H.csr 1), .int .i64 (gt H.csr 2), .int .i64 (gt H.csr 3), .int .i64 (gt H.csr 4), .int .i64 (gt H.csr 5), .int .i64 (gt H.csr 6), .int .i64 (gt H.csr 7), .int .i64 (gt H.csr 8), .int .i64 (gt H.csr 9), .int .i64 (gt H.csr 10), .bool H.halted, .bool H.waiting, .bool H.rung, .int .i64 H.done, .slice xa xn xk, .slice ya yn yk])).run Tryz.prog w' = .ok () (w'.setCells (s + 1) 0 (mca H (.slice xa xn xk) (.slice ya yn yk)).toList) := fun w' hs xa xn xk ya yn yk =>
    run_storeAt_mid w' (s + 1) 0 107 (mca H (.slice xa xn xk) (.slice ya yn yk)) hs.2 (by kernel_rfl) (mca_one _ _ _ rfl rfl)
  have LT : Hid (s + 1 < W.heap.size) := VR.out.lt
  have S0 : Hid (Sk W (s + 1) W) := ⟨Mq.refl _ _, VR.out.there 34 (by decide)⟩
  go_enter Tryz.func60, Tryz.ntmps60
  go_wp2_with fail
  have SD : Hid (Sk W (s + 1) W.drew) := S0.out.step LT.out (Below.refl _ _).drew
  refine wp_region_held (S := fun w' => Sk W (s + 1) w') (by kernel_rfl) ?_
  change wpAnyH _ _ _ _ _ _ _ _ (World.drew _)
  refine wpAnyH_take (i := 0) (v := .pointer (some ⟨s, 0, none⟩)) rfl (by kernel_rfl) (by kernel_rfl) (by kernel_rfl) (fun _ _ _ h => h) (Or.inl ⟨by rfl, fun w' hs => by go_simp⟩) SD.out ?_
  change wpAnyH _ _ _ _ _ _ _ (Act.put _ (some 3) _) _
  simp only [Act.put, List.setIfInBounds_toArray, List.set_cons_zero, List.set_cons_succ]
  refine wpAnyH_take (i := 1) (v := .slice (some ⟨y0, 0, none⟩) 16 k0) rfl (by kernel_rfl) (by kernel_rfl) (by kernel_rfl) (fun _ _ _ h => h) (Or.inl ⟨by rfl, fun w' hs => by go_simp⟩) SD.out ?_
  change wpAnyH _ _ _ _ _ _ _ (Act.put _ (some 4) _) _
  simp only [Act.put, List.setIfInBounds_toArray, List.set_cons_zero, List.set_cons_succ]
  refine wpAnyH_take (i := 2) (v := .pointer (some ⟨y0, 0, none⟩)) rfl (by kernel_rfl) (by kernel_rfl) (by kernel_rfl) (fun _ _ _ h => h) (Or.inl ⟨by rfl, fun w' hs => by go_simp⟩) SD.out ?_
  change wpAnyH _ _ _ _ _ _ _ (Act.put _ (some 5) _) _
  simp only [Act.put, List.setIfInBounds_toArray, List.set_cons_zero, List.set_cons_succ]
  refine wpAnyH_take (i := 3) (v := .agg #[.int .i64 (gt H.regs 0), .int .i64 (gt H.regs 1), .int .i64 (gt H.regs 2), .int .i64 (gt H.regs 3), .int .i64 (gt H.regs 4), .int .i64 (gt H.regs 5), .int .i64 (gt H.regs 6), .int .i64 (gt H.regs 7), .int .i64 (gt H.regs 8), .int .i64 (gt H.regs 9), .int .i64 (gt H.regs 10), .int .i64 (gt H.regs 11), .int .i64 (gt H.regs 12), .int .i64 (gt H.regs 13), .int .i64 (gt H.regs 14), .int .i64 (gt H.regs 15)]) rfl (by kernel_rfl) (by kernel_rfl) (by kernel_rfl) (fun _ _ _ h => h) (yieldsIf_load_mid (by rfl) 102 (.tmp 5) rfl y0 0 rfl [.int .i64 (gt H.regs 0), .int .i64 (gt H.regs 1), .int .i64 (gt H.regs 2), .int .i64 (gt H.regs 3), .int .i64 (gt H.regs 4), .int .i64 (gt H.regs 5), .int .i64 (gt H.regs 6), .int .i64 (gt H.regs 7), .int .i64 (gt H.regs 8), .int .i64 (gt H.regs 9), .int .i64 (gt H.regs 10), .int .i64 (gt H.regs 11), .int .i64 (gt H.regs 12), .int .i64 (gt H.regs 13), .int .i64 (gt H.regs 14), .int .i64 (gt H.regs 15)] _ R0.out Tryz.underlying102 rfl (by kernel_rfl)) SD.out ?_
  change wpAnyH _ _ _ _ _ _ _ (Act.put _ (some 6) _) _
  simp only [Act.put, List.setIfInBounds_toArray, List.set_cons_zero, List.set_cons_succ]
  refine wpAnyH_take (i := 4) (v := .pointer (some ⟨s, 1, none⟩)) rfl (by kernel_rfl) (by kernel_rfl) (by kernel_rfl) (fun _ _ _ h => h) (Or.inl ⟨by rfl, fun w' hs => by go_simp⟩) SD.out ?_
  change wpAnyH _ _ _ _ _ _ _ (Act.put _ (some 7) _) _
  simp only [Act.put, List.setIfInBounds_toArray, List.set_cons_zero, List.set_cons_succ]
  refine wpAnyH_take (i := 5) (v := .int .i64 H.pc) rfl (by kernel_rfl) (by kernel_rfl) (by kernel_rfl) (fun _ _ _ h => h) (Or.inl ⟨by rfl, fun w' hs => by go_simp⟩) SD.out ?_
  change wpAnyH _ _ _ _ _ _ _ (Act.put _ (some 8) _) _
  simp only [Act.put, List.setIfInBounds_toArray, List.set_cons_zero, List.set_cons_succ]
  refine wpAnyH_take (i := 6) (v := .pointer (some ⟨s, 2, none⟩)) rfl (by kernel_rfl) (by kernel_rfl) (by kernel_rfl) (fun _ _ _ h => h) (Or.inl ⟨by rfl, fun w' hs => by go_simp⟩) SD.out ?_
  change wpAnyH _ _ _ _ _ _ _ (Act.put _ (some 9) _) _
  simp only [Act.put, List.setIfInBounds_toArray, List.set_cons_zero, List.set_cons_succ]
  refine wpAnyH_take (i := 7) (v := .slice (some ⟨y1, 0, none⟩) 11 k1) rfl (by kernel_rfl) (by kernel_rfl) (by kernel_rfl) (fun _ _ _ h => h) (Or.inl ⟨by rfl, fun w' hs => by go_simp⟩) SD.out ?_
  change wpAnyH _ _ _ _ _ _ _ (Act.put _ (some 10) _) _
  simp only [Act.put, List.setIfInBounds_toArray, List.set_cons_zero, List.set_cons_succ]
  refine wpAnyH_take (i := 8) (v := .pointer (some ⟨y1, 0, none⟩)) rfl (by kernel_rfl) (by kernel_rfl) (by kernel_rfl) (fun _ _ _ h => h) (Or.inl ⟨by rfl, fun w' hs => by go_simp⟩) SD.out ?_
  change wpAnyH _ _ _ _ _ _ _ (Act.put _ (some 11) _) _
  simp only [Act.put, List.setIfInBounds_toArray, List.set_cons_zero, List.set_cons_succ]
  refine wpAnyH_take (i := 9) (v := .agg #[.int .i64 (gt H.csr 0), .int .i64 (gt H.csr 1), .int .i64 (gt H.csr 2), .int .i64 (gt H.csr 3), .int .i64 (gt H.csr 4), .int .i64 (gt H.csr 5), .int .i64 (gt H.csr 6), .int .i64 (gt H.csr 7), .int .i64 (gt H.csr 8), .int .i64 (gt H.csr 9), .int .i64 (gt H.csr 10)]) rfl (by kernel_rfl) (by kernel_rfl) (by kernel_rfl) (fun _ _ _ h => h) (yieldsIf_load_mid (by rfl) 103 (.tmp 11) rfl y1 0 rfl [.int .i64 (gt H.csr 0), .int .i64 (gt H.csr 1), .int .i64 (gt H.csr 2), .int .i64 (gt H.csr 3), .int .i64 (gt H.csr 4), .int .i64 (gt H.csr 5), .int .i64 (gt H.csr 6), .int .i64 (gt H.csr 7), .int .i64 (gt H.csr 8), .int .i64 (gt H.csr 9), .int .i64 (gt H.csr 10)] _ R1.out Tryz.underlying103 rfl (by kernel_rfl)) SD.out ?_
  change wpAnyH _ _ _ _ _ _ _ (Act.put _ (some 12) _) _
  simp only [Act.put, List.setIfInBounds_toArray, List.set_cons_zero, List.set_cons_succ]
  refine wpAnyH_take (i := 10) (v := .agg #[.int .i64 (gt H.regs 0), .int .i64 (gt H.regs 1), .int .i64 (gt H.regs 2), .int .i64 (gt H.regs 3), .int .i64 (gt H.regs 4), .int .i64 (gt H.regs 5), .int .i64 (gt H.regs 6), .int .i64 (gt H.regs 7), .int .i64 (gt H.regs 8), .int .i64 (gt H.regs 9), .int .i64 (gt H.regs 10), .int .i64 (gt H.regs 11), .int .i64 (gt H.regs 12), .int .i64 (gt H.regs 13), .int .i64 (gt H.regs 14), .int .i64 (gt H.regs 15), .int .i64 H.pc, .int .i64 (gt H.csr 0), .int .i64 (gt H.csr 1), .int .i64 (gt H.csr 2), .int .i64 (gt H.csr 3), .int .i64 (gt H.csr 4), .int .i64 (gt H.csr 5), .int .i64 (gt H.csr 6), .int .i64 (gt H.csr 7), .int .i64 (gt H.csr 8), .int .i64 (gt H.csr 9), .int .i64 (gt H.csr 10)]) rfl (by kernel_rfl) (by kernel_rfl) (by kernel_rfl) (fun _ _ _ h => h) (Or.inl ⟨by rfl, fun w' hs => by go_simp⟩) SD.out ?_
  change wpAnyH _ _ _ _ _ _ _ (Act.put _ (some 13) _) _
  simp only [Act.put, List.setIfInBounds_toArray, List.set_cons_zero, List.set_cons_succ]
  refine wpAnyH_take (i := 11) (v := .pointer (some ⟨s, 3, none⟩)) rfl (by kernel_rfl) (by kernel_rfl) (by kernel_rfl) (fun _ _ _ h => h) (Or.inl ⟨by rfl, fun w' hs => by go_simp⟩) SD.out ?_
  change wpAnyH _ _ _ _ _ _ _ (Act.put _ (some 14) _) _
  simp only [Act.put, List.setIfInBounds_toArray, List.set_cons_zero, List.set_cons_succ]
  refine wpAnyH_take (i := 12) (v := .bool H.halted) rfl (by kernel_rfl) (by kernel_rfl) (by kernel_rfl) (fun _ _ _ h => h) (Or.inl ⟨by rfl, fun w' hs => by go_simp⟩) SD.out ?_
  change wpAnyH _ _ _ _ _ _ _ (Act.put _ (some 15) _) _
  simp only [Act.put, List.setIfInBounds_toArray, List.set_cons_zero, List.set_cons_succ]
  refine wpAnyH_take (i := 13) (v := .pointer (some ⟨s, 4, none⟩)) rfl (by kernel_rfl) (by kernel_rfl) (by kernel_rfl) (fun _ _ _ h => h) (Or.inl ⟨by rfl, fun w' hs => by go_simp⟩) SD.out ?_
  change wpAnyH _ _ _ _ _ _ _ (Act.put _ (some 16) _) _
  simp only [Act.put, List.setIfInBounds_toArray, List.set_cons_zero, List.set_cons_succ]
  refine wpAnyH_take (i := 14) (v := .bool H.waiting) rfl (by kernel_rfl) (by kernel_rfl) (by kernel_rfl) (fun _ _ _ h => h) (Or.inl ⟨by rfl, fun w' hs => by go_simp⟩) SD.out ?_
  change wpAnyH _ _ _ _ _ _ _ (Act.put _ (some 17) _) _
  simp only [Act.put, List.setIfInBounds_toArray, List.set_cons_zero, List.set_cons_succ]
  refine wpAnyH_take (i := 15) (v := .pointer (some ⟨s, 5, none⟩)) rfl (by kernel_rfl) (by kernel_rfl) (by kernel_rfl) (fun _ _ _ h => h) (Or.inl ⟨by rfl, fun w' hs => by go_simp⟩) SD.out ?_
  change wpAnyH _ _ _ _ _ _ _ (Act.put _ (some 18) _) _
  simp only [Act.put, List.setIfInBounds_toArray, List.set_cons_zero, List.set_cons_succ]
  refine wpAnyH_take (i := 16) (v := .bool H.rung) rfl (by kernel_rfl) (by kernel_rfl) (by kernel_rfl) (fun _ _ _ h => h) (Or.inl ⟨by rfl, fun w' hs => by go_simp⟩) SD.out ?_
  change wpAnyH _ _ _ _ _ _ _ (Act.put _ (some 19) _) _
  simp only [Act.put, List.setIfInBounds_toArray, List.set_cons_zero, List.set_cons_succ]
  refine wpAnyH_take (i := 17) (v := .pointer (some ⟨s, 6, none⟩)) rfl (by kernel_rfl) (by kernel_rfl) (by kernel_rfl) (fun _ _ _ h => h) (Or.inl ⟨by rfl, fun w' hs => by go_simp⟩) SD.out ?_
  change wpAnyH _ _ _ _ _ _ _ (Act.put _ (some 20) _) _
  simp only [Act.put, List.setIfInBounds_toArray, List.set_cons_zero, List.set_cons_succ]
  refine wpAnyH_take (i := 18) (v := .int .i64 H.done) rfl (by kernel_rfl) (by kernel_rfl) (by kernel_rfl) (fun _ _ _ h => h) (Or.inl ⟨by rfl, fun w' hs => by go_simp⟩) SD.out ?_
  change wpAnyH _ _ _ _ _ _ _ (Act.put _ (some 21) _) _
  simp only [Act.put, List.setIfInBounds_toArray, List.set_cons_zero, List.set_cons_succ]
  refine wpAnyH_take (i := 19) (v := .pointer (some ⟨s, 7, none⟩)) rfl (by kernel_rfl) (by kernel_rfl) (by kernel_rfl) (fun _ _ _ h => h) (Or.inl ⟨by rfl, fun w' hs => by go_simp⟩) SD.out ?_
  change wpAnyH _ _ _ _ _ _ _ (Act.put _ (some 22) _) _
  simp only [Act.put, List.setIfInBounds_toArray, List.set_cons_zero, List.set_cons_succ]
  refine wpAnyH_take (i := 20) (v := .slice a2 n2 k2) rfl (by kernel_rfl) (by kernel_rfl) (by kernel_rfl) (fun _ _ _ h => h) (Or.inl ⟨by rfl, fun w' hs => by go_simp⟩) SD.out ?_
  change wpAnyH _ _ _ _ _ _ _ (Act.put _ (some 23) _) _
  simp only [Act.put, List.setIfInBounds_toArray, List.set_cons_zero, List.set_cons_succ]
  refine wpAnyH_take (i := 22) (v := .pointer (some ⟨s, 8, none⟩)) rfl (by kernel_rfl) (by kernel_rfl) (by kernel_rfl) (fun _ _ _ h => h) (Or.inl ⟨by rfl, fun w' hs => by go_simp⟩) SD.out ?_
  change wpAnyH _ _ _ _ _ _ _ (Act.put _ (some 25) _) _
  simp only [Act.put, List.setIfInBounds_toArray, List.set_cons_zero, List.set_cons_succ]
  refine wpAnyH_take (i := 23) (v := .slice a3 n3 k3) rfl (by kernel_rfl) (by kernel_rfl) (by kernel_rfl) (fun _ _ _ h => h) (Or.inl ⟨by rfl, fun w' hs => by go_simp⟩) SD.out ?_
  change wpAnyH _ _ _ _ _ _ _ (Act.put _ (some 26) _) _
  simp only [Act.put, List.setIfInBounds_toArray, List.set_cons_zero, List.set_cons_succ]
  refine wpAnyH_ready (rs := [21]) (by kernel_rfl) (by simp) ?_
  refine AllReadyH.cons rfl (fun K hK => ?_) AllReadyH.nil
  rw [if_pos (by rfl)]
  go_simp
  refine (i_clone a2 n2 k2 H.inn _ (MS.out _ SD.out).i.rn (by have := HL.out.1; omega)).mono ?_
  rintro e w1 ⟨v1, rfl, m1, b1⟩
  obtain ⟨xa, xk, rfl, _⟩ := m1.shape
  have S1 : Hid (Sk W (s + 1) w1) := SD.out.step LT.out b1
  have N1 : Hid (Nums w1 W.drew.heap.size (.slice xa H.inn.length xk) H.inn) := m1
  clear m1 b1
  refine hK.out _ _ S1.out (fun _ => ?_)
  clear hK K
  refine wpAnyH_ready (rs := [24]) (by kernel_rfl) (by simp) ?_
  refine AllReadyH.cons rfl (fun K hK => ?_) AllReadyH.nil
  rw [if_pos (by rfl)]
  go_simp
  refine (i_clone a3 n3 k3 H.out _ (MS.out _ S1.out).o.rn (by have := HL.out.2; omega)).mono ?_
  rintro e w2 ⟨v2, rfl, m2, b2⟩
  obtain ⟨ya, yk, rfl, _⟩ := m2.shape
  have S2 : Hid (Sk W (s + 1) w2) := S1.out.step LT.out b2
  have N2 : Hid (Nums w2 w1.heap.size (.slice ya H.out.length yk) H.out) := m2
  have N12 : Hid (Nums w2 W.drew.heap.size (.slice xa H.inn.length xk) H.inn) := N1.out.keep b2
  have AP : Hid (Apt (.slice xa H.inn.length xk) (.slice ya H.out.length yk)) := N1.out.apt N2.out (Nat.le_refl _)
  have L12 : Hid (w1.heap.size ≤ w2.heap.size) := b2.size
  have LI : Hid (∀ k, (Value.slice xa H.inn.length xk).ownBlock = some k → k < w1.heap.size) := fun k e => (N1.out.lt k e).2
  clear m2 b2
  refine hK.out _ _ S2.out (fun _ => ?_)
  clear hK K
  refine wpAnyH_take (i := 25) (v := .agg (mca H (.slice xa H.inn.length xk) (.slice ya H.out.length yk))) rfl (by kernel_rfl) (by kernel_rfl) (by kernel_rfl) (fun _ _ _ h => h) (Or.inl ⟨by rfl, fun w' hs => by rw [← mca_lit]; go_simp⟩) S2.out ?_
  change wpAnyH _ _ _ _ _ _ _ (Act.put _ (some 28) _) _
  simp only [Act.put, List.setIfInBounds_toArray, List.set_cons_zero, List.set_cons_succ]
  refine wpAnyH_ready (rs := [26]) (by kernel_rfl) (by simp) ?_
  refine AllReadyH.cons rfl (fun K hK => ?_) AllReadyH.nil
  rw [if_pos (by rfl)]
  refine wp_store_mid 107 (.tmp 2) (.tmp 28) rfl (s + 1) 0 (mca H (.slice xa H.inn.length xk) (.slice ya H.out.length yk)) rfl rfl S2.out.2 (by kernel_rfl) (mca_one _ _ _ rfl rfl) ?_
  change K (Act.put _ none undef) _
  simp only [Act.put]
  have S3 : Hid (Sk W (s + 1) (w2.setCells (s + 1) 0 (mca H (.slice xa H.inn.length xk) (.slice ya H.out.length yk)).toList)) := S2.out.set _
  have R3 : Hid ((w2.setCells (s + 1) 0 (mca H (.slice xa H.inn.length xk) (.slice ya H.out.length yk)).toList).rangeAt (s + 1) 0 (mca H (.slice xa H.inn.length xk) (.slice ya H.out.length yk)).toList) := World.rangeAt_setCells_same _ _ _ _ S2.out.2
  have O3 : Hid (Ho W.heap.size w2 (w2.setCells (s + 1) 0 (mca H (.slice xa H.inn.length xk) (.slice ya H.out.length yk)).toList)) := (mq_cells (s + 1) _ w2 0).ho fun k e => by have := LT.out; omega
  generalize w2.setCells (s + 1) 0 (mca H (.slice xa H.inn.length xk) (.slice ya H.out.length yk)).toList = w3 at *
  refine hK.out _ _ S3.out (fun _ => ?_)
  clear hK K
  refine wpAnyH_done (by kernel_rfl) ?_ _
  have X3 : Nums w3 W.heap.size (.slice xa H.inn.length xk) H.inn := N12.out.ho O3.out
  have Y3 : Nums w3 W.heap.size (.slice ya H.out.length yk) H.out := (N2.out.mono (show W.heap.size ≤ w1.heap.size from S1.out.1.size)).ho O3.out
  have B3 : Below w.heap.size w w3 := Mq.under B0.out S3.out.1 fun k e => by have := HS.out; omega
  have LD := run_loadVar_mid (P := Tryz.prog) w3 (s + 1) 0 107 (mca H (.slice xa H.inn.length xk) (.slice ya H.out.length yk)).toList _ R3.out Tryz.underlying107 rfl (by kernel_rfl)
  go_wp2_with fail
  exact bodyPost_ret (v := .agg (mca H (.slice xa H.inn.length xk) (.slice ya H.out.length yk))) (by simp [results, Tryz.results60, asAddr]; rw [LD]) rfl
    ⟨_, _, rfl, X3.mono B0.out.size, Y3.mono B0.out.size, AP.out, B3, w1.heap.size, Nat.le_trans B0.out.size S1.out.1.size, Nat.le_trans L12.out O3.out.size, N2.out.ho ⟨O3.out.size, fun k hb hk => O3.out.block k (Nat.le_trans S1.out.1.size hb) hk⟩, LI.out⟩
theorem i_machine (r c i o : Value) (H : Ht) (b : Nat) (w : World) (h : Hm w b r c i o H) (hr : H.regs.length = 16) (hc : H.csr.length = 11) (hi : H.inn.length ≤ 1000) (ho : H.out.length ≤ 1000) :
    Calls Tryz.prog 60 #[.agg #[r, .int .i64 H.pc, c, .bool H.halted, .bool H.waiting, .bool H.rung, .int .i64 H.done, i, o]] w fun e w' => ∃ i' o', e = .returned (.agg (mca H i' o')) ∧ Nums w' w.heap.size i' H.inn ∧ Nums w' w.heap.size o' H.out ∧ Apt i' o' ∧ Below w.heap.size w w' :=
  (i_machineX r c i o H b w h hr hc hi ho).mono fun _ _ ⟨i', o', h1, h2, h3, h4, h5, _⟩ => ⟨i', o', h1, h2, h3, h4, h5⟩
end Go.Proofs.YtggejbphdadckaaGreatDoor
namespace Go.Proofs.YtggejbphdadckaaGreatDoor
open Go.RowKit
set_option linter.unusedVariables false

/-- A slice of slices of numbers, read alone. -/
def Svr (w : World) (v : Value) (oss : List (List Int)) : Prop :=
  (v = .slice none 0 0 ∧ oss = []) ∨ ∃ g cap, v = .slice (some ⟨g, 0, none⟩) oss.length cap ∧ oss.length ≤ cap ∧ cap ≤ maxLen ∧ ∀ i, i < oss.length → ∃ b l c, w.cell? ⟨g, i, none⟩ = some (.slice b l c) ∧ Rv w (.slice b l c) (oss.getD i [])
theorem Svr.keep {w w' : World} {v : Value} {oss : List (List Int)} (h : Svr w v oss) (b : Below w.heap.size w w') : Svr w' v oss := by
  rcases h with h | ⟨g, cap, h1, h2, h3, h4⟩
  · exact .inl h
  · exact .inr ⟨g, cap, h1, h2, h3, fun i hi => by obtain ⟨x, l, c, k1, k2⟩ := h4 i hi; exact ⟨x, l, c, cell_keep b k1, k2.stay b⟩⟩
theorem Svr.shape {w : World} {v : Value} {oss : List (List Int)} (h : Svr w v oss) : ∃ a cap, v = .slice a oss.length cap ∧ oss.length ≤ cap ∧ cap ≤ maxLen ∧ (0 < oss.length → ∃ g, a = some ⟨g, 0, none⟩) := by
  rcases h with ⟨rfl, rfl⟩ | ⟨g, cap, h1, h2, h3, _⟩
  · exact ⟨none, 0, rfl, Nat.le_refl _, by unfold maxLen; omega, fun h => by simp at h⟩
  · exact ⟨_, cap, h1, h2, h3, fun _ => ⟨g, rfl⟩⟩
theorem Svr.row {w : World} {g n cap : Nat} {oss : List (List Int)} (h : Svr w (.slice (some ⟨g, 0, none⟩) n cap) oss) (i : Nat) (hi : i < oss.length) : ∃ b l c, w.cell? ⟨g, i, none⟩ = some (.slice b l c) ∧ Rv w (.slice b l c) (oss.getD i []) := by
  rcases h with ⟨h, _⟩ | ⟨g', cap', h1, h2, h3, h4⟩
  · cases h
  · simp at h1
    obtain ⟨e1, e2, e3⟩ := h1
    subst e1 e2 e3
    exact h4 i hi
set_option maxRecDepth 20000 in
set_option maxHeartbeats 8000000 in
theorem eq_ssQ (v u : Value) (oss : List (List Int)) (w : World) (h : Svr w v oss) (k : Svr w u oss) :
    Calls Tryz.prog 65 #[v, u] w fun e w' => e = .returned (.bool true) ∧ Below w.heap.size w w' := by
  obtain ⟨a1, q1, hu, z1, l1, g1⟩ := h.shape
  obtain ⟨a2, q2, hv, _, l2, g2⟩ := k.shape
  subst hu hv
  obtain ⟨n, hn⟩ : ∃ n, oss.length = n := ⟨_, rfl⟩
  rw [hn] at h k g1 g2 z1 ⊢
  have HZ : Hid (Svr w (.slice a1 n q1) oss) := h
  have KZ : Hid (Svr w (.slice a2 n q2) oss) := k
  have HN : Hid (oss.length = n) := hn
  have G1 : Hid (0 < n → ∃ g, a1 = some ⟨g, 0, none⟩) := g1
  have G2 : Hid (0 < n → ∃ g, a2 = some ⟨g, 0, none⟩) := g2
  have hl : (n : Int) ≤ 9223372036854775807 := by unfold maxLen at l1; omega
  clear hn g1 g2 l1 l2 z1
  clear h k
  go_enter Tryz.func65, Tryz.ntmps65
  go_wp2_with fail
  go_loopw [5] (fun i wr => ∃ j : Nat, j ≤ n ∧ i = .int .i64 j ∧ Below w.heap.size w wr) (fun i _ => n - (intOf i).toNat)
  case atStart => exact ⟨0, Nat.zero_le _, rfl, Below.refl _ _⟩
  case round =>
    obtain ⟨j, hj, rfl, hB⟩ := hrel
    have HB : Hid (Below _ _ _) := hB
    by_cases hlt : j < n
    · obtain ⟨y1, e1⟩ := G1.out (by omega)
      obtain ⟨y2, e2⟩ := G2.out (by omega)
      subst e1 e2
      obtain ⟨x1, l1, c1, d1, m1⟩ := (HZ.out.keep hB).row j (by rw [HN.out]; exact hlt)
      obtain ⟨x2, l2, c2, d2, m2⟩ := (KZ.out.keep hB).row j (by rw [HN.out]; exact hlt)
      have M1 : Hid (Rv wr _ _) := m1
      have M2 : Hid (Rv wr _ _) := m2
      have hI : (j : Int) < (n : Int) := by omega
      have HL : Hid (j < n) := hlt
      have inh : Nonempty (BW wr) := ⟨⟨wr, Below.refl _ _⟩⟩
      have z1 := BW.cell d1
      have z2 := BW.cell d2
      have CE : ∀ p : BW wr, Calls Tryz.prog 11 #[.slice x1 l1 c1, .slice x2 l2 c2] p.w fun e w' => e = .returned (.bool true) ∧ Below p.w.heap.size p.w w' := fun p => eq_rn _ _ _ _ (M1.out.stay p.h) (M2.out.stay p.h)
      clear hB hlt m1 m2
      go_wp2_with fail
      refine region_bw (by kernel_rfl) ?_
      repeat (quiet_step ((go_at_call 11; exact calls_bw (CE _))))
      refine wpQuiet_nil ?_
      rintro _ ⟨p9, rfl⟩
      have B9 : Hid (Below w.heap.size w p9.w) := on HB.out p9.h
      go_wp2_with fail
      go_roundw
      case rel => exact ⟨j + 1, by have := HL.out; omega, by go_num, B9.out⟩
      case measure => have := HL.out; simp [intOf]; omega
    · have hI : ¬ (j : Int) < (n : Int) := by omega
      clear hB
      go_wp2_with fail
      go_ret
      exact ⟨rfl, HB.out⟩
/-- Machines in a list, read alone. -/
def Hv (w : World) (v : Value) (hs : List Ht) : Prop :=
  (v = .slice none 0 0 ∧ hs = []) ∨ ∃ g cap, v = .slice (some ⟨g, 0, none⟩) hs.length cap ∧ hs.length ≤ cap ∧ cap ≤ maxLen ∧ ∀ k, k < hs.length → ∃ r c i o, Hc w ⟨g, k * 9, none⟩ r c i o (hs.getD k voidH) ∧ Hr w r c i o (hs.getD k voidH)
theorem Hv.keep {w w' : World} {v : Value} {hs : List Ht} (h : Hv w v hs) (b : Below w.heap.size w w') : Hv w' v hs := by
  rcases h with h | ⟨g, cap, h1, h2, h3, h4⟩
  · exact .inl h
  · exact .inr ⟨g, cap, h1, h2, h3, fun k hk => by obtain ⟨r, c, i, o, k1, k2⟩ := h4 k hk; exact ⟨r, c, i, o, k1.stay b, k2.stay b⟩⟩
theorem Hv.shape {w : World} {v : Value} {hs : List Ht} (h : Hv w v hs) : ∃ a cap, v = .slice a hs.length cap ∧ hs.length ≤ cap ∧ cap ≤ maxLen ∧ (0 < hs.length → ∃ g, a = some ⟨g, 0, none⟩) := by
  rcases h with ⟨rfl, rfl⟩ | ⟨g, cap, h1, h2, h3, _⟩
  · exact ⟨none, 0, rfl, Nat.le_refl _, by unfold maxLen; omega, fun h => by simp at h⟩
  · exact ⟨_, cap, h1, h2, h3, fun _ => ⟨g, rfl⟩⟩
theorem Hv.at {w : World} {g n cap : Nat} {hs : List Ht} (h : Hv w (.slice (some ⟨g, 0, none⟩) n cap) hs) (k : Nat) (hk : k < hs.length) : ∃ r c i o, Hc w ⟨g, k * 9, none⟩ r c i o (hs.getD k voidH) ∧ Hr w r c i o (hs.getD k voidH) := by
  rcases h with ⟨h, _⟩ | ⟨g', cap', h1, h2, h3, h4⟩
  · cases h
  · simp at h1
    obtain ⟨e1, e2, e3⟩ := h1
    subst e1 e2 e3
    exact h4 k hk
set_option maxRecDepth 20000 in
set_option maxHeartbeats 8000000 in
theorem eq_hartsQ (u v : Value) (hs : List Ht) (w : World) (h : Hv w u hs) (k : Hv w v hs) :
    Calls Tryz.prog 30 #[u, v] w fun e w' => e = .returned (.bool true) ∧ Below w.heap.size w w' := by
  obtain ⟨a1, q1, hu, _, l1, g1⟩ := h.shape
  obtain ⟨a2, q2, hv, _, l2, g2⟩ := k.shape
  subst hu hv
  obtain ⟨n, hn⟩ : ∃ n, hs.length = n := ⟨_, rfl⟩
  rw [hn] at h k g1 g2 ⊢
  have HH : Hid (Hv w (.slice a1 n q1) hs) := h
  have HK : Hid (Hv w (.slice a2 n q2) hs) := k
  have HN : Hid (hs.length = n) := hn
  have G1 : Hid (0 < n → ∃ g, a1 = some ⟨g, 0, none⟩) := g1
  have G2 : Hid (0 < n → ∃ g, a2 = some ⟨g, 0, none⟩) := g2
  have hmax : (n : Int) ≤ 9223372036854775807 := by have hc := h.shape; obtain ⟨_, _, _, h1, h2, _⟩ := hc; rw [hn] at h1; unfold maxLen at h2; omega
  clear h k hn g1 g2 l1 l2
  go_enter Tryz.func30, Tryz.ntmps30
  go_wp2_with fail
  go_loopw [5] (fun c wr => ∃ j : Nat, j ≤ n ∧ c = .int .i64 j ∧ Below w.heap.size w wr) (fun c _ => n - (intOf c).toNat)
  case atStart => exact ⟨0, Nat.zero_le _, rfl, Below.refl _ _⟩
  case round =>
    obtain ⟨j, hj, rfl, hB⟩ := hrel
    have HB : Hid (Below w.heap.size w wr) := hB
    by_cases hlt : j < n
    · obtain ⟨x1, e1⟩ := G1.out (by omega)
      obtain ⟨x2, e2⟩ := G2.out (by omega)
      subst e1 e2
      obtain ⟨r, c, i, o, y1, y2⟩ := (HH.out.keep hB).at j (by rw [HN.out]; exact hlt)
      obtain ⟨r', c', i', o', z1, z2⟩ := (HK.out.keep hB).at j (by rw [HN.out]; exact hlt)
      obtain ⟨H, hH⟩ : ∃ H, hs.getD j voidH = H := ⟨_, rfl⟩
      rw [hH] at y1 y2 z1 z2
      obtain ⟨xr, lr, rfl, _⟩ := y2.r
      obtain ⟨xc, lc, rfl, _⟩ := y2.c
      obtain ⟨xi, li, rfl, _⟩ := y2.i
      obtain ⟨xo, lo, rfl, _⟩ := y2.o
      obtain ⟨zr, qr, rfl, _⟩ := z2.r
      obtain ⟨zc, qc, rfl, _⟩ := z2.c
      obtain ⟨zi, qi, rfl, _⟩ := z2.i
      obtain ⟨zo, qo, rfl, _⟩ := z2.o
      have Y2 : Hid (Hr wr _ _ _ _ H) := y2
      have Z2 : Hid (Hr wr _ _ _ _ H) := z2
      generalize H.regs.length = m0 at *
      generalize H.csr.length = m1 at *
      generalize H.inn.length = mi at *
      generalize H.out.length = mo at *
      have Y1 : Hid (Hc wr ⟨x1, j * 9, none⟩ _ _ _ _ H) := y1
      have Z1 : Hid (Hc wr ⟨x2, j * 9, none⟩ _ _ _ _ H) := z1
      have hI : (j : Int) < (n : Int) := by omega
      have HL : Hid (j < n) := hlt
      clear y1 y2 z1 z2 hB hH hlt
      go_wp2_with fail
      refine wp_region_held (S := fun w' => Below wr.heap.size wr w') (by kernel_rfl) ?_
      change wpAnyH _ _ _ _ _ _ _ _ (World.drew _)
      have SD : Hid (Below wr.heap.size wr wr.drew) := (Below.refl _ _).drew
      generalize wr.drew = x0 at *
      refine wpAnyH_take (i := 0) (v := .slice (some ⟨x1, 0, none⟩) n q1) rfl (by kernel_rfl) (by kernel_rfl) (by kernel_rfl) (fun _ _ _ h => h) (Or.inl ⟨by rfl, fun w' hs => by go_simp⟩) SD.out ?_
      change wpAnyH _ _ _ _ _ _ _ (Act.put _ (some 17) _) _
      simp only [Act.put, List.setIfInBounds_toArray, List.set_cons_zero, List.set_cons_succ]
      refine wpAnyH_take (i := 1) (v := .int .i64 (j : Int)) rfl (by kernel_rfl) (by kernel_rfl) (by kernel_rfl) (fun _ _ _ h => h) (Or.inl ⟨by rfl, fun w' hs => by go_simp⟩) SD.out ?_
      change wpAnyH _ _ _ _ _ _ _ (Act.put _ (some 18) _) _
      simp only [Act.put, List.setIfInBounds_toArray, List.set_cons_zero, List.set_cons_succ]
      refine wpAnyH_take (i := 2) (v := .pointer (some ⟨x1, j * 9, none⟩)) rfl (by kernel_rfl) (by kernel_rfl) (by kernel_rfl) (fun _ _ _ h => h) (Or.inl ⟨by rfl, fun w' hs => by go_simp⟩) SD.out ?_
      change wpAnyH _ _ _ _ _ _ _ (Act.put _ (some 19) _) _
      simp only [Act.put, List.setIfInBounds_toArray, List.set_cons_zero, List.set_cons_succ]
      refine wpAnyH_take (i := 3) (v := .agg #[.slice xr m0 lr, .int .i64 H.pc, .slice xc m1 lc, .bool H.halted, .bool H.waiting, .bool H.rung, .int .i64 H.done, .slice xi mi li, .slice xo mo lo]) rfl (by kernel_rfl) (by kernel_rfl) (by kernel_rfl) (fun _ _ _ h => h) (Or.inl ⟨by rfl, fun w' hs => by have hc := Y1.out.stay hs; have y0 := hc.c0; have y1 := hc.c1; have y2 := hc.c2; have y3 := hc.c3; have y4 := hc.c4; have y5 := hc.c5; have y6 := hc.c6; have y7 := hc.c7; have y8 := hc.c8; go_simp⟩) SD.out ?_
      change wpAnyH _ _ _ _ _ _ _ (Act.put _ (some 20) _) _
      simp only [Act.put, List.setIfInBounds_toArray, List.set_cons_zero, List.set_cons_succ]
      refine wpAnyH_take (i := 4) (v := .slice (some ⟨x2, 0, none⟩) n q2) rfl (by kernel_rfl) (by kernel_rfl) (by kernel_rfl) (fun _ _ _ h => h) (Or.inl ⟨by rfl, fun w' hs => by go_simp⟩) SD.out ?_
      change wpAnyH _ _ _ _ _ _ _ (Act.put _ (some 21) _) _
      simp only [Act.put, List.setIfInBounds_toArray, List.set_cons_zero, List.set_cons_succ]
      refine wpAnyH_take (i := 5) (v := .int .i64 (j : Int)) rfl (by kernel_rfl) (by kernel_rfl) (by kernel_rfl) (fun _ _ _ h => h) (Or.inl ⟨by rfl, fun w' hs => by go_simp⟩) SD.out ?_
      change wpAnyH _ _ _ _ _ _ _ (Act.put _ (some 22) _) _
      simp only [Act.put, List.setIfInBounds_toArray, List.set_cons_zero, List.set_cons_succ]
      refine wpAnyH_take (i := 6) (v := .pointer (some ⟨x2, j * 9, none⟩)) rfl (by kernel_rfl) (by kernel_rfl) (by kernel_rfl) (fun _ _ _ h => h) (Or.inl ⟨by rfl, fun w' hs => by go_simp⟩) SD.out ?_
      change wpAnyH _ _ _ _ _ _ _ (Act.put _ (some 23) _) _
      simp only [Act.put, List.setIfInBounds_toArray, List.set_cons_zero, List.set_cons_succ]
      refine wpAnyH_take (i := 7) (v := .agg #[.slice zr m0 qr, .int .i64 H.pc, .slice zc m1 qc, .bool H.halted, .bool H.waiting, .bool H.rung, .int .i64 H.done, .slice zi mi qi, .slice zo mo qo]) rfl (by kernel_rfl) (by kernel_rfl) (by kernel_rfl) (fun _ _ _ h => h) (Or.inl ⟨by rfl, fun w' hs => by have hc := Z1.out.stay hs; have y0 := hc.c0; have y1 := hc.c1; have y2 := hc.c2; have y3 := hc.c3; have y4 := hc.c4; have y5 := hc.c5; have y6 := hc.c6; have y7 := hc.c7; have y8 := hc.c8; go_simp⟩) SD.out ?_
      change wpAnyH _ _ _ _ _ _ _ (Act.put _ (some 24) _) _
      simp only [Act.put, List.setIfInBounds_toArray, List.set_cons_zero, List.set_cons_succ]
      refine wpAnyH_ready (rs := [8]) (by kernel_rfl) (by simp) ?_
      refine AllReadyH.cons rfl (fun K hK => ?_) AllReadyH.nil
      rw [if_pos (by rfl)]
      go_simp
      refine (eqr_hart _ _ _ _ _ _ _ _ H _ (Y2.out.stay SD.out) (Z2.out.stay SD.out)).mono ?_
      rintro e w2 ⟨rfl, b2⟩
      have S2 : Hid (Below wr.heap.size wr w2) := on SD.out b2
      clear b2
      refine hK.out _ _ S2.out (fun _ => ?_)
      clear hK K
      refine wpAnyH_take (i := 9) (v := .bool false) rfl (by kernel_rfl) (by kernel_rfl) (by kernel_rfl) (fun _ _ _ h => h) (Or.inl ⟨by rfl, fun w' hs => by go_simp⟩) S2.out ?_
      change wpAnyH _ _ _ _ _ _ _ (Act.put _ (some 26) _) _
      simp only [Act.put, List.setIfInBounds_toArray, List.set_cons_zero, List.set_cons_succ]
      refine wpAnyH_done (by kernel_rfl) ?_ _
      have B2 : Hid (Below w.heap.size w w2) := on HB.out S2.out
      clear SD S2 Y1 Y2 Z1 Z2
      go_wp2_with fail
      go_roundw
      case rel => exact ⟨j + 1, by have := HL.out; omega, by go_num, B2.out⟩
      case measure => have := HL.out; simp [intOf]; omega
    · have hJ : ¬ (j : Int) < (n : Int) := by omega
      clear hlt
      go_wp2_with fail
      go_ret
      exact ⟨rfl, hB⟩
/-- A host that is read alone. -/
structure Hq (w : World) (b : Nat) (v0 v1 v2 v3 v4 v5 : Value) (X : Hst) : Prop where
  own : Svr w v0 X.pol.own
  lanes : Ls 125 w b v1 X.pol.lanes
  bells : Prs 129 w b v2 X.pol.bells
  plan : Prs 123 w b v3 X.pol.plan
  mem : Rv w v4 X.mem
  harts : Hv w v5 X.harts
theorem Hq.keep {w w' : World} {b : Nat} {v0 v1 v2 v3 v4 v5 : Value} {X : Hst} (h : Hq w b v0 v1 v2 v3 v4 v5 X) (B : Below w.heap.size w w') : Hq w' b v0 v1 v2 v3 v4 v5 X :=
  ⟨h.own.keep B, h.lanes.keep B, h.bells.keep B, h.plan.keep B, h.mem.stay B, h.harts.keep B⟩
set_option maxRecDepth 20000 in
set_option maxHeartbeats 8000000 in
theorem eq_policyQ (v0 v1 v2 v3 u0 u1 u2 u3 : Value) (P : Plc) (b c : Nat) (w : World) (h0 : Svr w v0 P.own) (h1 : Ls 125 w b v1 P.lanes) (h2 : Prs 129 w b v2 P.bells) (h3 : Prs 123 w b v3 P.plan) (k0 : Svr w u0 P.own) (k1 : Ls 125 w c u1 P.lanes) (k2 : Prs 129 w c u2 P.bells) (k3 : Prs 123 w c u3 P.plan) :
    Calls Tryz.prog 29 #[.agg #[v0, v1, v2, v3], .agg #[u0, u1, u2, u3]] w fun e w' => e = .returned (.bool true) ∧ Below w.heap.size w w' := by
  obtain ⟨xa0, xc0, e0, _⟩ := h0.shape
  obtain ⟨xa1, xc1, e1, _⟩ := h1.shape
  obtain ⟨xa2, xc2, e2, _⟩ := h2.shape
  obtain ⟨xa3, xc3, e3, _⟩ := h3.shape
  obtain ⟨ya0, yc0, f0, _⟩ := k0.shape
  obtain ⟨ya1, yc1, f1, _⟩ := k1.shape
  obtain ⟨ya2, yc2, f2, _⟩ := k2.shape
  obtain ⟨ya3, yc3, f3, _⟩ := k3.shape
  subst e0 e1 e2 e3 f0 f1 f2 f3
  obtain ⟨n0, hn0⟩ : ∃ n, P.own.length = n := ⟨_, rfl⟩
  obtain ⟨n1, hn1⟩ : ∃ n, P.lanes.length = n := ⟨_, rfl⟩
  obtain ⟨n2, hn2⟩ : ∃ n, P.bells.length = n := ⟨_, rfl⟩
  obtain ⟨n3, hn3⟩ : ∃ n, P.plan.length = n := ⟨_, rfl⟩
  rw [hn0] at h0 k0
  rw [hn1] at h1 k1
  rw [hn2] at h2 k2
  rw [hn3] at h3 k3
  rw [hn0, hn1, hn2, hn3]
  clear hn0 hn1 hn2 hn3
  generalize hW : (w.alloc (.cells #[.slice xa0 n0 xc0, .slice xa1 n1 xc1, .slice xa2 n2 xc2, .slice xa3 n3 xc3] 37)).alloc (.cells #[.slice ya0 n0 yc0, .slice ya1 n1 yc1, .slice ya2 n2 yc2, .slice ya3 n3 yc3] 37) = W
  have B0 : Hid (Below w.heap.size w W) := by show Below _ _ _; rw [← hW]; exact al (al (Below.refl _ _) _) _
  obtain ⟨s, hS⟩ : ∃ s, w.heap.size = s := ⟨_, rfl⟩
  have z1 : s + 1 = (w.alloc (.cells #[.slice xa0 n0 xc0, .slice xa1 n1 xc1, .slice xa2 n2 xc2, .slice xa3 n3 xc3] 37)).heap.size := by rw [← hS]; simp
  have Q : Hid (Vb W s #[.slice xa0 n0 xc0, .slice xa1 n1 xc1, .slice xa2 n2 xc2, .slice xa3 n3 xc3] 37) := by show Vb _ _ _ _; rw [← hW, ← hS]; exact (Vb.new _ _ _).push _
  have K : Hid (Vb W (s + 1) #[.slice ya0 n0 yc0, .slice ya1 n1 yc1, .slice ya2 n2 yc2, .slice ya3 n3 yc3] 37) := by show Vb _ _ _ _; rw [← hW, z1]; exact Vb.new _ _ _
  have H0 : Hid (Svr W _ P.own ∧ Svr W _ P.own) := ⟨h0.keep B0.out, k0.keep B0.out⟩
  have H1 : Hid (Ls 125 W b _ P.lanes ∧ Ls 125 W c _ P.lanes) := ⟨h1.keep B0.out, k1.keep B0.out⟩
  have H2 : Hid (Prs 129 W b _ P.bells ∧ Prs 129 W c _ P.bells) := ⟨h2.keep B0.out, k2.keep B0.out⟩
  have H3 : Hid (Prs 123 W b _ P.plan ∧ Prs 123 W c _ P.plan) := ⟨h3.keep B0.out, k3.keep B0.out⟩
  clear h0 h1 h2 h3 k0 k1 k2 k3 z1
  have q0 := Q.out.cell 0 rfl
  have s0 := K.out.cell 0 rfl
  go_enter Tryz.func29, Tryz.ntmps29
  go_wp2_with fail
  clear hW hS q0 s0
  refine (eq_ssQ _ _ _ _ H0.out.1 H0.out.2).mono ?_
  rintro e w1 ⟨rfl, b1⟩
  have q1 := (Q.out.keep b1).cell 1 rfl
  have s1 := (K.out.keep b1).cell 1 rfl
  go_wp2_with fail
  clear q1 s1
  refine (eq_lanes _ _ _ _ _ _ (H1.out.1.keep b1) (H1.out.2.keep b1)).mono ?_
  rintro e w2 ⟨rfl, b2'⟩
  have b2 := on b1 b2'
  clear b1 b2'
  have q2 := (Q.out.keep b2).cell 2 rfl
  have s2 := (K.out.keep b2).cell 2 rfl
  go_wp2_with fail
  clear q2 s2
  refine (eq_bells _ _ _ _ _ _ (H2.out.1.keep b2) (H2.out.2.keep b2)).mono ?_
  rintro e w3 ⟨rfl, b3'⟩
  have b3 := on b2 b3'
  clear b2 b3'
  have q3 := (Q.out.keep b3).cell 3 rfl
  have s3 := (K.out.keep b3).cell 3 rfl
  go_wp2_with fail
  clear q3 s3
  refine (eq_slots _ _ _ _ _ _ (H3.out.1.keep b3) (H3.out.2.keep b3)).mono ?_
  rintro e w4 ⟨rfl, b4⟩
  go_wp2_with fail
  go_ret
  exact ⟨rfl, on B0.out (on b3 b4)⟩
set_option maxRecDepth 20000 in
set_option maxHeartbeats 8000000 in
theorem eq_hostQ (v0 v1 v2 v3 v4 v5 u0 u1 u2 u3 u4 u5 : Value) (X : Hst) (b b' : Nat) (w : World) (d : Hq w b v0 v1 v2 v3 v4 v5 X) (d' : Hq w b' u0 u1 u2 u3 u4 u5 X) :
    Calls Tryz.prog 10 #[.agg #[v0, v1, v2, v3, v4, v5, .int .i64 X.slot, .int .i64 X.left, .int .i64 X.clock], .agg #[u0, u1, u2, u3, u4, u5, .int .i64 X.slot, .int .i64 X.left, .int .i64 X.clock]] w fun e w' => e = .returned (.bool true) ∧ Below w.heap.size w w' := by
  obtain ⟨xa0, xc0, e0, _⟩ := d.own.shape
  obtain ⟨ya0, yc0, f0, _⟩ := d'.own.shape
  obtain ⟨xa1, xc1, e1, _⟩ := d.lanes.shape
  obtain ⟨ya1, yc1, f1, _⟩ := d'.lanes.shape
  obtain ⟨xa2, xc2, e2, _⟩ := d.bells.shape
  obtain ⟨ya2, yc2, f2, _⟩ := d'.bells.shape
  obtain ⟨xa3, xc3, e3, _⟩ := d.plan.shape
  obtain ⟨ya3, yc3, f3, _⟩ := d'.plan.shape
  obtain ⟨xa4, xc4, e4, _⟩ := d.mem
  obtain ⟨ya4, yc4, f4, _⟩ := d'.mem
  obtain ⟨xa5, xc5, e5, _⟩ := d.harts.shape
  obtain ⟨ya5, yc5, f5, _⟩ := d'.harts.shape
  subst e0 e1 e2 e3 e4 e5 f0 f1 f2 f3 f4 f5
  obtain ⟨n0, hn0⟩ : ∃ n, X.pol.own.length = n := ⟨_, rfl⟩
  obtain ⟨n1, hn1⟩ : ∃ n, X.pol.lanes.length = n := ⟨_, rfl⟩
  obtain ⟨n2, hn2⟩ : ∃ n, X.pol.bells.length = n := ⟨_, rfl⟩
  obtain ⟨n3, hn3⟩ : ∃ n, X.pol.plan.length = n := ⟨_, rfl⟩
  obtain ⟨n4, hn4⟩ : ∃ n, X.mem.length = n := ⟨_, rfl⟩
  obtain ⟨n5, hn5⟩ : ∃ n, X.harts.length = n := ⟨_, rfl⟩
  rw [hn0, hn1, hn2, hn3, hn4, hn5] at d d' ⊢
  clear hn0 hn1 hn2 hn3 hn4 hn5
  have D : Hid (Hq w b _ _ _ _ _ _ X) := d
  have D' : Hid (Hq w b' _ _ _ _ _ _ X) := d'
  clear d d'
  generalize hW : (w.alloc (.cells #[.slice xa0 n0 xc0, .slice xa1 n1 xc1, .slice xa2 n2 xc2, .slice xa3 n3 xc3, .slice xa4 n4 xc4, .slice xa5 n5 xc5, .int .i64 X.slot, .int .i64 X.left, .int .i64 X.clock] 40)).alloc (.cells #[.slice ya0 n0 yc0, .slice ya1 n1 yc1, .slice ya2 n2 yc2, .slice ya3 n3 yc3, .slice ya4 n4 yc4, .slice ya5 n5 yc5, .int .i64 X.slot, .int .i64 X.left, .int .i64 X.clock] 40) = W
  have B0 : Hid (Below w.heap.size w W) := by show Below _ _ _; rw [← hW]; exact al (al (Below.refl _ _) _) _
  obtain ⟨s, hS⟩ : ∃ s, w.heap.size = s := ⟨_, rfl⟩
  have Q : Hid (Vb W s #[.slice xa0 n0 xc0, .slice xa1 n1 xc1, .slice xa2 n2 xc2, .slice xa3 n3 xc3, .slice xa4 n4 xc4, .slice xa5 n5 xc5, .int .i64 X.slot, .int .i64 X.left, .int .i64 X.clock] 40) := by show Vb _ _ _ _; rw [← hW, ← hS]; exact (Vb.new _ _ _).push _
  have R : Hid (Vb W (s + 1) #[.slice ya0 n0 yc0, .slice ya1 n1 yc1, .slice ya2 n2 yc2, .slice ya3 n3 yc3, .slice ya4 n4 yc4, .slice ya5 n5 yc5, .int .i64 X.slot, .int .i64 X.left, .int .i64 X.clock] 40) := by
    have z1 : s + 1 = (w.alloc (.cells #[.slice xa0 n0 xc0, .slice xa1 n1 xc1, .slice xa2 n2 xc2, .slice xa3 n3 xc3, .slice xa4 n4 xc4, .slice xa5 n5 xc5, .int .i64 X.slot, .int .i64 X.left, .int .i64 X.clock] 40)).heap.size := by rw [← hS]; simp
    show Vb _ _ _ _; rw [← hW, z1]; exact Vb.new _ _ _
  have q0 := Q.out.cell 0 rfl
  have q1 := Q.out.cell 1 rfl
  have q2 := Q.out.cell 2 rfl
  have q3 := Q.out.cell 3 rfl
  have r0 := R.out.cell 0 rfl
  have r1 := R.out.cell 1 rfl
  have r2 := R.out.cell 2 rfl
  have r3 := R.out.cell 3 rfl
  have E : Hid (Hq W b _ _ _ _ _ _ X ∧ Hq W b' _ _ _ _ _ _ X) := ⟨D.out.keep B0.out, D'.out.keep B0.out⟩
  clear D D'
  go_enter Tryz.func10, Tryz.ntmps10
  go_wp2_with fail
  clear hW hS q0 r0 q1 r1 q2 r2 q3 r3
  refine (eq_policyQ _ _ _ _ _ _ _ _ X.pol _ _ _ E.out.1.own E.out.1.lanes E.out.1.bells E.out.1.plan E.out.2.own E.out.2.lanes E.out.2.bells E.out.2.plan).mono ?_
  rintro e w1 ⟨rfl, b1⟩
  have B1 : Hid (Below W.heap.size W w1) := b1
  have q4 := (Q.out.keep b1).cell 4 rfl
  have r4 := (R.out.keep b1).cell 4 rfl
  clear b1
  go_wp2_with fail
  clear q4 r4
  refine (eq_rn _ _ X.mem _ (E.out.1.mem.stay B1.out) (E.out.2.mem.stay B1.out)).mono ?_
  rintro e w2 ⟨rfl, b2⟩
  have B2 : Hid (Below W.heap.size W w2) := on B1.out b2
  have q5 := (Q.out.keep B2.out).cell 5 rfl
  have r5 := (R.out.keep B2.out).cell 5 rfl
  clear b2
  go_wp2_with fail
  clear q5 r5
  refine (eq_hartsQ _ _ X.harts _ (E.out.1.harts.keep B2.out) (E.out.2.harts.keep B2.out)).mono ?_
  rintro e w3 ⟨rfl, b3⟩
  have B3 : Hid (Below W.heap.size W w3) := on B2.out b3
  clear b3
  have q6 := (Q.out.keep B3.out).cell 6 rfl
  have q7 := (Q.out.keep B3.out).cell 7 rfl
  have q8 := (Q.out.keep B3.out).cell 8 rfl
  have r6 := (R.out.keep B3.out).cell 6 rfl
  have r7 := (R.out.keep B3.out).cell 7 rfl
  have r8 := (R.out.keep B3.out).cell 8 rfl
  go_wp2_with fail
  go_ret
  exact ⟨rfl, on B0.out B3.out⟩
set_option maxRecDepth 20000 in
set_option maxHeartbeats 8000000 in
theorem eq_hostRQ (z : Int) (v0 v1 v2 v3 v4 v5 u0 u1 u2 u3 u4 u5 : Value) (X : Hst) (b b' : Nat) (w : World) (d : Hq w b v0 v1 v2 v3 v4 v5 X) (d' : Hq w b' u0 u1 u2 u3 u4 u5 X) :
    Calls Tryz.prog 9 #[.agg #[.int .i64 z, v0, v1, v2, v3, v4, v5, .int .i64 X.slot, .int .i64 X.left, .int .i64 X.clock], .agg #[.int .i64 z, u0, u1, u2, u3, u4, u5, .int .i64 X.slot, .int .i64 X.left, .int .i64 X.clock]] w fun e w' => e = .returned (.bool true) ∧ Below w.heap.size w w' := by
  obtain ⟨xa0, xc0, e0, _⟩ := d.own.shape
  obtain ⟨ya0, yc0, f0, _⟩ := d'.own.shape
  obtain ⟨xa1, xc1, e1, _⟩ := d.lanes.shape
  obtain ⟨ya1, yc1, f1, _⟩ := d'.lanes.shape
  obtain ⟨xa2, xc2, e2, _⟩ := d.bells.shape
  obtain ⟨ya2, yc2, f2, _⟩ := d'.bells.shape
  obtain ⟨xa3, xc3, e3, _⟩ := d.plan.shape
  obtain ⟨ya3, yc3, f3, _⟩ := d'.plan.shape
  obtain ⟨xa4, xc4, e4, _⟩ := d.mem
  obtain ⟨ya4, yc4, f4, _⟩ := d'.mem
  obtain ⟨xa5, xc5, e5, _⟩ := d.harts.shape
  obtain ⟨ya5, yc5, f5, _⟩ := d'.harts.shape
  subst e0 e1 e2 e3 e4 e5 f0 f1 f2 f3 f4 f5
  obtain ⟨n0, hn0⟩ : ∃ n, X.pol.own.length = n := ⟨_, rfl⟩
  obtain ⟨n1, hn1⟩ : ∃ n, X.pol.lanes.length = n := ⟨_, rfl⟩
  obtain ⟨n2, hn2⟩ : ∃ n, X.pol.bells.length = n := ⟨_, rfl⟩
  obtain ⟨n3, hn3⟩ : ∃ n, X.pol.plan.length = n := ⟨_, rfl⟩
  obtain ⟨n4, hn4⟩ : ∃ n, X.mem.length = n := ⟨_, rfl⟩
  obtain ⟨n5, hn5⟩ : ∃ n, X.harts.length = n := ⟨_, rfl⟩
  rw [hn0, hn1, hn2, hn3, hn4, hn5] at d d' ⊢
  clear hn0 hn1 hn2 hn3 hn4 hn5
  have D : Hid (Hq w b _ _ _ _ _ _ X) := d
  have D' : Hid (Hq w b' _ _ _ _ _ _ X) := d'
  clear d d'
  generalize hW : (w.alloc (.cells #[.int .i64 z, .slice xa0 n0 xc0, .slice xa1 n1 xc1, .slice xa2 n2 xc2, .slice xa3 n3 xc3, .slice xa4 n4 xc4, .slice xa5 n5 xc5, .int .i64 X.slot, .int .i64 X.left, .int .i64 X.clock] 42)).alloc (.cells #[.int .i64 z, .slice ya0 n0 yc0, .slice ya1 n1 yc1, .slice ya2 n2 yc2, .slice ya3 n3 yc3, .slice ya4 n4 yc4, .slice ya5 n5 yc5, .int .i64 X.slot, .int .i64 X.left, .int .i64 X.clock] 42) = W
  have B0 : Hid (Below w.heap.size w W) := by show Below _ _ _; rw [← hW]; exact al (al (Below.refl _ _) _) _
  obtain ⟨s, hS⟩ : ∃ s, w.heap.size = s := ⟨_, rfl⟩
  have Q : Hid (Vb W s #[.int .i64 z, .slice xa0 n0 xc0, .slice xa1 n1 xc1, .slice xa2 n2 xc2, .slice xa3 n3 xc3, .slice xa4 n4 xc4, .slice xa5 n5 xc5, .int .i64 X.slot, .int .i64 X.left, .int .i64 X.clock] 42) := by show Vb _ _ _ _; rw [← hW, ← hS]; exact (Vb.new _ _ _).push _
  have R : Hid (Vb W (s + 1) #[.int .i64 z, .slice ya0 n0 yc0, .slice ya1 n1 yc1, .slice ya2 n2 yc2, .slice ya3 n3 yc3, .slice ya4 n4 yc4, .slice ya5 n5 yc5, .int .i64 X.slot, .int .i64 X.left, .int .i64 X.clock] 42) := by
    have z1 : s + 1 = (w.alloc (.cells #[.int .i64 z, .slice xa0 n0 xc0, .slice xa1 n1 xc1, .slice xa2 n2 xc2, .slice xa3 n3 xc3, .slice xa4 n4 xc4, .slice xa5 n5 xc5, .int .i64 X.slot, .int .i64 X.left, .int .i64 X.clock] 42)).heap.size := by rw [← hS]; simp
    show Vb _ _ _ _; rw [← hW, z1]; exact Vb.new _ _ _
  have E : Hid (Hq W b _ _ _ _ _ _ X ∧ Hq W b' _ _ _ _ _ _ X) := ⟨D.out.keep B0.out, D'.out.keep B0.out⟩
  clear D D'
  have q0 := Q.out.cell 0 rfl
  have r0 := R.out.cell 0 rfl
  have q1 := Q.out.cell 1 rfl
  have r1 := R.out.cell 1 rfl
  have q2 := Q.out.cell 2 rfl
  have r2 := R.out.cell 2 rfl
  have q3 := Q.out.cell 3 rfl
  have r3 := R.out.cell 3 rfl
  have q4 := Q.out.cell 4 rfl
  have r4 := R.out.cell 4 rfl
  have q5 := Q.out.cell 5 rfl
  have r5 := R.out.cell 5 rfl
  have q6 := Q.out.cell 6 rfl
  have r6 := R.out.cell 6 rfl
  have q7 := Q.out.cell 7 rfl
  have r7 := R.out.cell 7 rfl
  have q8 := Q.out.cell 8 rfl
  have r8 := R.out.cell 8 rfl
  have q9 := Q.out.cell 9 rfl
  have r9 := R.out.cell 9 rfl
  go_enter Tryz.func9, Tryz.ntmps9
  go_wp2_with fail
  clear hW hS q0 r0 q1 r1 q2 r2 q3 r3 q4 r4 q5 r5 q6 r6 q7 r7 q8 r8 q9 r9
  refine (eq_hostQ _ _ _ _ _ _ _ _ _ _ _ _ X _ _ _ E.out.1 E.out.2).mono ?_
  rintro e w1 ⟨rfl, b1⟩
  go_wp2_with fail
  go_ret
  exact ⟨rfl, on B0.out b1⟩
end Go.Proofs.YtggejbphdadckaaGreatDoor
namespace Go.Proofs.YtggejbphdadckaaGreatDoor
open Go.RowKit
set_option linter.unusedVariables false

set_option maxRecDepth 20000 in
set_option maxHeartbeats 4000000 in
theorem i_bells (a0 a1 a2 a3 : Option Addr) (n0 c0 n1 c1 n2 c2 n3 c3 : Nat) (P : Plc) (w : World) (h : Pl w a0 n0 c0 a1 n1 c1 a2 n2 c2 a3 n3 c3 P) :
    Calls Tryz.prog 114 #[.agg #[.slice a0 n0 c0, .slice a1 n1 c1, .slice a2 n2 c2, .slice a3 n3 c3]] w fun e w' => e = .returned (errV (bellsV P.own.length [] P.bells)) ∧ Below w.heap.size w w' := by
  have HL0 : Hid (n0 = P.own.length) := h.own.len
  have HL2 : Hid (n2 = P.bells.length) := h.bells.len
  have HP1 : Hid (Pl (w.alloc (.cells #[.slice a0 n0 c0, .slice a1 n1 c1, .slice a2 n2 c2, .slice a3 n3 c3] 37)) a0 n0 c0 a1 n1 c1 a2 n2 c2 a3 n3 c3 P) := h.stay (al (Below.refl _ _) _)
  have hmax : (n2 : Int) ≤ 9223372036854775807 := by have := h.bells.cap; unfold maxLen at this; omega
  have hc2 : (n2 : Int) ≤ (c2 : Int) := by have := h.bells.cap; omega
  have HM0 : Hid ((n0 : Int) ≤ 9223372036854775807) := by have := h.own.cap; show _ ≤ _; unfold maxLen at this; omega
  have HB1 : Hid (Below w.heap.size w (w.alloc (.cells #[.slice a0 n0 c0, .slice a1 n1 c1, .slice a2 n2 c2, .slice a3 n3 c3] 37))) := al (Below.refl _ _) _
  have Q : Hid (((w.alloc (.cells #[.slice a0 n0 c0, .slice a1 n1 c1, .slice a2 n2 c2, .slice a3 n3 c3] 37))).cell? ⟨w.heap.size, 0, none⟩ = some (.slice a0 n0 c0) ∧ ((w.alloc (.cells #[.slice a0 n0 c0, .slice a1 n1 c1, .slice a2 n2 c2, .slice a3 n3 c3] 37))).cell? ⟨w.heap.size, 1, none⟩ = some (.slice a1 n1 c1) ∧ ((w.alloc (.cells #[.slice a0 n0 c0, .slice a1 n1 c1, .slice a2 n2 c2, .slice a3 n3 c3] 37))).cell? ⟨w.heap.size, 2, none⟩ = some (.slice a2 n2 c2) ∧ ((w.alloc (.cells #[.slice a0 n0 c0, .slice a1 n1 c1, .slice a2 n2 c2, .slice a3 n3 c3] 37))).cell? ⟨w.heap.size, 3, none⟩ = some (.slice a3 n3 c3)) := ⟨cell_new rfl, cell_new rfl, cell_new rfl, cell_new rfl⟩
  clear h
  go_enter Tryz.func114, Tryz.ntmps114
  go_wp2_with fail
  generalize (w.alloc (.cells #[.slice a0 n0 c0, .slice a1 n1 c1, .slice a2 n2 c2, .slice a3 n3 c3] 37)) = W1 at *
  obtain ⟨B0, hB0⟩ : ∃ B0, w.heap.size = B0 := ⟨_, rfl⟩
  rw [hB0] at Q ⊢
  clear hB0
  go_loopw [9] (fun c wr => ∃ j : Nat, j ≤ n2 ∧ c = .int .i64 j ∧ Below W1.heap.size W1 wr ∧ Hid (bellsV P.own.length [] P.bells = bellsV P.own.length (P.bells.take j) (P.bells.drop j))) (fun c _ => n2 - (intOf c).toNat)
  case atStart => exact ⟨0, Nat.zero_le _, rfl, Below.refl _ _, by show _ = _; simp⟩
  case round =>
    obtain ⟨j, hj, rfl, hB, hI⟩ := hrel
    have HB : Hid (Below W1.heap.size W1 wr) := hB
    have q0 := cell_keep hB Q.out.1
    have q1 := cell_keep hB Q.out.2.1
    have q2 := cell_keep hB Q.out.2.2.1
    have q3 := cell_keep hB Q.out.2.2.2
    have bB : B0 < wr.heap.size := block_of_cell q0
    by_cases hlt : j < n2
    · obtain ⟨x, rfl, k0, k1⟩ := (HP1.out.bells.stay hB).at j hlt
      have hJ : (j : Int) < (n2 : Int) := by omega
      have hjc : (j : Int) ≤ (c2 : Int) := by omega
      have HLT : Hid (j < n2) := hlt
      have ST : Hid (_ = _) := bells_step P.own.length P.bells j (by have := HL2.out; omega)
      obtain ⟨⟨f, t⟩, hL⟩ : ∃ L, P.bells.getD j (0, 0) = L := ⟨_, rfl⟩
      rw [hL] at k0 k1 ST
      simp only at k0 k1
      clear hL hlt hB
      have LQ : Hid ((wr.alloc (.cells #[.int .i64 f, .int .i64 t] 129)).cell? ⟨wr.heap.size, 0, none⟩ = some (.int .i64 f) ∧ (wr.alloc (.cells #[.int .i64 f, .int .i64 t] 129)).cell? ⟨wr.heap.size, 1, none⟩ = some (.int .i64 t)) := ⟨cell_new rfl, cell_new rfl⟩
      by_cases he : endsV n0 f t ≠ 0
      · have RV : Hid (bellsV P.own.length [] P.bells = endsV n0 f t) := by
          show _ = _
          have e : bellV P.own.length (P.bells.take j) (f, t) = endsV n0 f t := by rw [bellV, ← HL0.out, if_neg he]
          rw [hI.out, ST.out, e, if_neg he]
        have ev : errV (endsV n0 f t) = .iface 165 (.agg #[.int .i64 (endsV n0 f t)]) := by rw [errV, if_neg he]
        clear he
        generalize hv : endsV n0 f t = v at *
        go_wp2_with (go_at_call 125; refine (i_ends _ _ _ _ _ _ _ _ _ _ _ _ _ _ _ HM0.out).mono ?_; rintro e w2 ⟨rfl, b2⟩; have p0 := cell_keep b2 (cell_push _ q0); have p1 := cell_keep b2 (cell_push _ q1); have p2 := cell_keep b2 (cell_push _ q2); have p3 := cell_keep b2 (cell_push _ q3); have l0 := cell_keep b2 LQ.out.1; have l1 := cell_keep b2 LQ.out.2; have B2 : Hid (Below W1.heap.size W1 w2) := on (al HB.out _) b2; clear b2; rw [hv, ev])
        go_ret
        rw [RV.out, ev]
        exact ⟨rfl, on HB1.out B2.out⟩
      have he0 : endsV n0 f t = 0 := Decidable.not_not.1 he
      have V0 : Hid (bellV P.own.length (P.bells.take j) (f, t) = if (f, t) ∈ P.bells.take j then 6 else 0) := by
        show _ = _
        rw [bellV, ← HL0.out, if_pos he0]
      have ev0 : errV 0 = .nilIface := rfl
      clear he
      go_wp2_with (go_at_call 125; refine (i_ends _ _ _ _ _ _ _ _ _ _ _ _ _ _ _ HM0.out).mono ?_; rintro e w2 ⟨rfl, b2⟩; have p0 := cell_keep b2 (cell_push _ q0); have p1 := cell_keep b2 (cell_push _ q1); have p2 := cell_keep b2 (cell_push _ q2); have p3 := cell_keep b2 (cell_push _ q3); have l0 := cell_keep b2 LQ.out.1; have l1 := cell_keep b2 LQ.out.2; have B2 : Hid (Below W1.heap.size W1 w2) := on (al HB.out _) b2; clear b2; rw [he0, ev0])
      have HBp : Hid (IsPairs w2 (some x) j c2 (P.bells.take j)) := (HP1.out.bells.stay B2.out).pre j (Nat.le_of_lt HLT.out)
      have HB3 : Hid (Below w.heap.size w w2) := on HB1.out B2.out
      have inh : Nonempty (BW w2) := ⟨⟨w2, Below.refl _ _⟩⟩
      have z0 := BW.cell p0
      have z1 := BW.cell p1
      have z2 := BW.cell p2
      have z3 := BW.cell p3
      have y0 := BW.cell l0
      have y1 := BW.cell l1
      by_cases hm : (f, t) ∈ P.bells.take j
      · have RV : Hid (bellsV P.own.length [] P.bells = 6) := by
          show _ = _
          rw [hI.out, ST.out, V0.out, if_pos hm]
          rfl
        have CC : ∀ p : BW w2, Calls Tryz.prog 129 #[.slice (some x) j c2, .agg #[.int .i64 f, .int .i64 t]] p.w fun e w' => e = .returned (.bool true) ∧ Below p.w.heap.size p.w w' := fun p => by
          have t := i_containsB _ _ _ f t _ p.w (HBp.out.stay p.h)
          rw [decide_eq_true hm] at t
          exact t
        clear hm
        refine region_bw (by kernel_rfl) ?_
        repeat (quiet_step ((go_at_call 129; exact calls_bw (CC _))))
        refine wpQuiet_nil ?_
        rintro _ ⟨p9, rfl⟩
        have B9 : Hid (Below w.heap.size w p9.w) := on HB3.out p9.h
        go_wp2_with fail
        go_ret
        rw [RV.out]
        exact ⟨rfl, B9.out⟩
      · have V4 : Hid (bellV P.own.length (P.bells.take j) (f, t) = 0) := by show _ = _; rw [V0.out, if_neg hm]
        have CC : ∀ p : BW w2, Calls Tryz.prog 129 #[.slice (some x) j c2, .agg #[.int .i64 f, .int .i64 t]] p.w fun e w' => e = .returned (.bool false) ∧ Below p.w.heap.size p.w w' := fun p => by
          have t := i_containsB _ _ _ f t _ p.w (HBp.out.stay p.h)
          rw [decide_eq_false hm] at t
          exact t
        clear hm
        refine region_bw (by kernel_rfl) ?_
        repeat (quiet_step ((go_at_call 129; exact calls_bw (CC _))))
        refine wpQuiet_nil ?_
        rintro _ ⟨p9, rfl⟩
        have B9 : Hid (Below W1.heap.size W1 p9.w) := on B2.out p9.h
        go_wp2_with fail
        go_roundw
        case rel => exact ⟨j + 1, by have := HLT.out; omega, by go_num, B9.out, by show _ = _; rw [hI.out, ST.out, V4.out]; rfl⟩
        case measure => have := HLT.out; simp [intOf]; omega
    · have hJ : ¬ (j : Int) < (n2 : Int) := by omega
      have HJ : Hid (j = n2) := by show _ = _; omega
      clear hlt
      have RV : Hid (bellsV P.own.length [] P.bells = 0) := by
        show _ = _
        rw [hI.out, List.drop_of_length_le (by have := HL2.out; have := HJ.out; omega)]
        rfl
      go_wp2_with fail
      go_ret
      rw [RV.out]
      exact ⟨rfl, on HB1.out HB.out⟩

/-- The codes of the six looks, in their order. -/
def look (P : Plc) : Nat → Int
  | 0 => g1V P.own
  | 1 => g2V P.own
  | 2 => g3V P
  | 3 => lanesV P.own [] P.lanes
  | 4 => bellsV P.own.length [] P.bells
  | _ => g6V P
theorem look_first (P : Plc) (j : Nat) (hj : j < 6) (h : ∀ i, i < j → look P i = 0) (hn : look P j ≠ 0) : pfV P = look P j := by
  unfold pfV ownsV linksV restV
  match j, hj with
  | 0, _ => have e : g1V P.own ≠ 0 := hn; simp [orV, e, look]
  | 1, _ => have e : g2V P.own ≠ 0 := hn; have h0 : g1V P.own = 0 := h 0 (by omega); simp [orV, e, look, h0]
  | 2, _ => have e : g3V P ≠ 0 := hn; have h0 : g1V P.own = 0 := h 0 (by omega); have h1 : g2V P.own = 0 := h 1 (by omega); simp [orV, e, look, h0, h1]
  | 3, _ => have e : lanesV P.own [] P.lanes ≠ 0 := hn; have h0 : g1V P.own = 0 := h 0 (by omega); have h1 : g2V P.own = 0 := h 1 (by omega); have h2 : g3V P = 0 := h 2 (by omega); simp [orV, e, look, h0, h1, h2]
  | 4, _ => have e : bellsV P.own.length [] P.bells ≠ 0 := hn; have h0 : g1V P.own = 0 := h 0 (by omega); have h1 : g2V P.own = 0 := h 1 (by omega); have h2 : g3V P = 0 := h 2 (by omega); have h3 : lanesV P.own [] P.lanes = 0 := h 3 (by omega); simp [orV, e, look, h0, h1, h2, h3]
  | 5, _ => have e : g6V P ≠ 0 := hn; have h0 : g1V P.own = 0 := h 0 (by omega); have h1 : g2V P.own = 0 := h 1 (by omega); have h2 : g3V P = 0 := h 2 (by omega); have h3 : lanesV P.own [] P.lanes = 0 := h 3 (by omega); have h4 : bellsV P.own.length [] P.bells = 0 := h 4 (by omega); simp [orV, look, h0, h1, h2, h3, h4]
theorem look_none (P : Plc) (h : ∀ i, i < 6 → look P i = 0) : pfV P = 0 := by
  have h0 : g1V P.own = 0 := h 0 (by omega)
  have h1 : g2V P.own = 0 := h 1 (by omega)
  have h2 : g3V P = 0 := h 2 (by omega)
  have h3 : lanesV P.own [] P.lanes = 0 := h 3 (by omega)
  have h4 : bellsV P.own.length [] P.bells = 0 := h 4 (by omega)
  have h5 : g6V P = 0 := h 5 (by omega)
  simp [pfV, ownsV, linksV, restV, orV, h0, h1, h2, h3, h4, h5]
theorem g1_guests (own : List (List Int)) (h : g1V own = 0) : guestsV own = 0 := by
  unfold g1V at h
  split at h
  · cases h
  · exact h

set_option maxRecDepth 20000 in
set_option maxHeartbeats 4000000 in
theorem i_check (a0 a1 a2 a3 : Option Addr) (n0 c0 n1 c1 n2 c2 n3 c3 : Nat) (P : Plc) (w : World) (h : Pl w a0 n0 c0 a1 n1 c1 a2 n2 c2 a3 n3 c3 P) :
    Calls Tryz.prog 86 #[.agg #[.slice a0 n0 c0, .slice a1 n1 c1, .slice a2 n2 c2, .slice a3 n3 c3]] w fun e w' => e = .returned (errV (pfV P)) ∧ Below w.heap.size w w' := by
  have HP1 : Hid (Pl (w.alloc (.cells #[.slice a0 n0 c0, .slice a1 n1 c1, .slice a2 n2 c2, .slice a3 n3 c3] 37)) a0 n0 c0 a1 n1 c1 a2 n2 c2 a3 n3 c3 P) := h.stay (al (Below.refl _ _) _)
  have HB1 : Hid (Below w.heap.size w (w.alloc (.cells #[.slice a0 n0 c0, .slice a1 n1 c1, .slice a2 n2 c2, .slice a3 n3 c3] 37))) := al (Below.refl _ _) _
  have Q : Hid (((w.alloc (.cells #[.slice a0 n0 c0, .slice a1 n1 c1, .slice a2 n2 c2, .slice a3 n3 c3] 37))).cell? ⟨w.heap.size, 0, none⟩ = some (.slice a0 n0 c0) ∧ ((w.alloc (.cells #[.slice a0 n0 c0, .slice a1 n1 c1, .slice a2 n2 c2, .slice a3 n3 c3] 37))).cell? ⟨w.heap.size, 1, none⟩ = some (.slice a1 n1 c1) ∧ ((w.alloc (.cells #[.slice a0 n0 c0, .slice a1 n1 c1, .slice a2 n2 c2, .slice a3 n3 c3] 37))).cell? ⟨w.heap.size, 2, none⟩ = some (.slice a2 n2 c2) ∧ ((w.alloc (.cells #[.slice a0 n0 c0, .slice a1 n1 c1, .slice a2 n2 c2, .slice a3 n3 c3] 37))).cell? ⟨w.heap.size, 3, none⟩ = some (.slice a3 n3 c3)) := ⟨cell_new rfl, cell_new rfl, cell_new rfl, cell_new rfl⟩
  have ev0 : errV 0 = .nilIface := rfl
  clear h
  have hst := fun (k : Nat) (a : Addr) (W : World) => run_store Tryz.prog W a (.func (.func k) #[] #[]) .plain rfl
  go_enter Tryz.func86, Tryz.ntmps86
  go_wp2_with fail
  clear hst
  go_loopw [9] (fun c wr => ∃ j : Nat, j ≤ 6 ∧ c = .int .i64 j ∧ Below ((w.alloc (.cells #[.slice a0 n0 c0, .slice a1 n1 c1, .slice a2 n2 c2, .slice a3 n3 c3] 37))).heap.size (w.alloc (.cells #[.slice a0 n0 c0, .slice a1 n1 c1, .slice a2 n2 c2, .slice a3 n3 c3] 37)) wr ∧ Hid (∀ i, i < j → look P i = 0)) (fun c _ => 6 - (intOf c).toNat)
  case atStart => exact ⟨0, Nat.zero_le _, rfl, al (Below.refl _ _) _, fun i hi => absurd hi (Nat.not_lt_zero _)⟩
  case round =>
    obtain ⟨j, hj, hc, hB, hI⟩ := hrel
    have HB : Hid (Below _ _ wr) := hB
    have q0 := cell_keep hB Q.out.1
    have q1 := cell_keep hB Q.out.2.1
    have q2 := cell_keep hB Q.out.2.2.1
    have q3 := cell_keep hB Q.out.2.2.2
    have HPr : Hid (Pl wr a0 n0 c0 a1 n1 c1 a2 n2 c2 a3 n3 c3 P) := HP1.out.stay hB
    have HBw : Hid (Below w.heap.size w wr) := on HB1.out hB
    clear hB
    by_cases hlt : j < 6
    · have next : Hid (look P j = 0 → ∀ i, i < j + 1 → look P i = 0) := fun h0 i hi => by
        rcases Nat.lt_or_ge i j with h | h
        · exact hI.out i h
        · obtain rfl : i = j := by omega
          exact h0
      have first : Hid (look P j ≠ 0 → pfV P = look P j) := look_first P j hlt hI.out
      have cs : j = 0 ∨ j = 1 ∨ j = 2 ∨ j = 3 ∨ j = 4 ∨ j = 5 := by omega
      rcases cs with rfl | rfl | rfl | rfl | rfl | rfl
      · have hc' : _ = Value.int .i64 0 := hc
        subst hc'
        have ix : ∀ W, (Instr.index 168 (.agg #[.func (.func 110) #[] #[], .func (.func 111) #[] #[], .func (.func 112) #[] #[], .func (.func 113) #[] #[], .func (.func 114) #[] #[], .func (.func 115) #[] #[]]) (.int .i64 0)).run Tryz.prog W = .ok (.func (.func 110) #[] #[]) W := fun W => by kernel_rfl
        by_cases hz : g1V P.own = 0
        · have NX : Hid (∀ i, i < 0 + 1 → look P i = 0) := next.out hz
          go_wp2_with (go_at_call 110; refine (i_guests _ _ _ _ _ _ _ _ _ _ _ _ P _ HPr.out).mono ?_; rintro e w2 ⟨rfl, b2⟩; rw [hz, ev0])
          go_roundw
          case rel => exact ⟨0 + 1, by omega, by first | rfl | go_num, on HB.out b2, NX⟩
          case measure => simp [intOf]
        · have FV : Hid (pfV P = g1V P.own) := first.out hz
          have ev : errV (g1V P.own) = .iface 165 (.agg #[.int .i64 (g1V P.own)]) := by rw [errV, if_neg hz]
          clear hz
          go_wp2_with (go_at_call 110; refine (i_guests _ _ _ _ _ _ _ _ _ _ _ _ P _ HPr.out).mono ?_; rintro e w2 ⟨rfl, b2⟩; rw [ev])
          go_ret
          rw [FV.out, ev]
          exact ⟨rfl, on HBw.out b2⟩
      · have hc' : _ = Value.int .i64 1 := hc
        subst hc'
        have ix : ∀ W, (Instr.index 168 (.agg #[.func (.func 110) #[] #[], .func (.func 111) #[] #[], .func (.func 112) #[] #[], .func (.func 113) #[] #[], .func (.func 114) #[] #[], .func (.func 115) #[] #[]]) (.int .i64 1)).run Tryz.prog W = .ok (.func (.func 111) #[] #[]) W := fun W => by kernel_rfl
        have GZ : Hid (guestsV P.own = 0) := g1_guests _ (hI.out 0 (by omega))
        by_cases hz : g2V P.own = 0
        · have NX : Hid (∀ i, i < 1 + 1 → look P i = 0) := next.out hz
          go_wp2_with (go_at_call 111; refine (i_owned _ _ _ _ _ _ _ _ _ _ _ _ P _ HPr.out GZ.out).mono ?_; rintro e w2 ⟨rfl, b2⟩; rw [hz, ev0])
          go_roundw
          case rel => exact ⟨1 + 1, by omega, by first | rfl | go_num, on HB.out b2, NX⟩
          case measure => simp [intOf]
        · have FV : Hid (pfV P = g2V P.own) := first.out hz
          have ev : errV (g2V P.own) = .iface 165 (.agg #[.int .i64 (g2V P.own)]) := by rw [errV, if_neg hz]
          clear hz
          go_wp2_with (go_at_call 111; refine (i_owned _ _ _ _ _ _ _ _ _ _ _ _ P _ HPr.out GZ.out).mono ?_; rintro e w2 ⟨rfl, b2⟩; rw [ev])
          go_ret
          rw [FV.out, ev]
          exact ⟨rfl, on HBw.out b2⟩
      · have hc' : _ = Value.int .i64 2 := hc
        subst hc'
        have ix : ∀ W, (Instr.index 168 (.agg #[.func (.func 110) #[] #[], .func (.func 111) #[] #[], .func (.func 112) #[] #[], .func (.func 113) #[] #[], .func (.func 114) #[] #[], .func (.func 115) #[] #[]]) (.int .i64 2)).run Tryz.prog W = .ok (.func (.func 112) #[] #[]) W := fun W => by kernel_rfl
        by_cases hz : g3V P = 0
        · have NX : Hid (∀ i, i < 2 + 1 → look P i = 0) := next.out hz
          go_wp2_with (go_at_call 112; refine (i_links _ _ _ _ _ _ _ _ _ _ _ _ P _ HPr.out).mono ?_; rintro e w2 ⟨rfl, b2⟩; rw [hz, ev0])
          go_roundw
          case rel => exact ⟨2 + 1, by omega, by first | rfl | go_num, on HB.out b2, NX⟩
          case measure => simp [intOf]
        · have FV : Hid (pfV P = g3V P) := first.out hz
          have ev : errV (g3V P) = .iface 165 (.agg #[.int .i64 (g3V P)]) := by rw [errV, if_neg hz]
          clear hz
          go_wp2_with (go_at_call 112; refine (i_links _ _ _ _ _ _ _ _ _ _ _ _ P _ HPr.out).mono ?_; rintro e w2 ⟨rfl, b2⟩; rw [ev])
          go_ret
          rw [FV.out, ev]
          exact ⟨rfl, on HBw.out b2⟩
      · have hc' : _ = Value.int .i64 3 := hc
        subst hc'
        have ix : ∀ W, (Instr.index 168 (.agg #[.func (.func 110) #[] #[], .func (.func 111) #[] #[], .func (.func 112) #[] #[], .func (.func 113) #[] #[], .func (.func 114) #[] #[], .func (.func 115) #[] #[]]) (.int .i64 3)).run Tryz.prog W = .ok (.func (.func 113) #[] #[]) W := fun W => by kernel_rfl
        by_cases hz : lanesV P.own [] P.lanes = 0
        · have NX : Hid (∀ i, i < 3 + 1 → look P i = 0) := next.out hz
          go_wp2_with (go_at_call 113; refine (i_lanes _ _ _ _ _ _ _ _ _ _ _ _ P _ HPr.out).mono ?_; rintro e w2 ⟨rfl, b2⟩; rw [hz, ev0])
          go_roundw
          case rel => exact ⟨3 + 1, by omega, by first | rfl | go_num, on HB.out b2, NX⟩
          case measure => simp [intOf]
        · have FV : Hid (pfV P = lanesV P.own [] P.lanes) := first.out hz
          have ev : errV (lanesV P.own [] P.lanes) = .iface 165 (.agg #[.int .i64 (lanesV P.own [] P.lanes)]) := by rw [errV, if_neg hz]
          clear hz
          go_wp2_with (go_at_call 113; refine (i_lanes _ _ _ _ _ _ _ _ _ _ _ _ P _ HPr.out).mono ?_; rintro e w2 ⟨rfl, b2⟩; rw [ev])
          go_ret
          rw [FV.out, ev]
          exact ⟨rfl, on HBw.out b2⟩
      · have hc' : _ = Value.int .i64 4 := hc
        subst hc'
        have ix : ∀ W, (Instr.index 168 (.agg #[.func (.func 110) #[] #[], .func (.func 111) #[] #[], .func (.func 112) #[] #[], .func (.func 113) #[] #[], .func (.func 114) #[] #[], .func (.func 115) #[] #[]]) (.int .i64 4)).run Tryz.prog W = .ok (.func (.func 114) #[] #[]) W := fun W => by kernel_rfl
        by_cases hz : bellsV P.own.length [] P.bells = 0
        · have NX : Hid (∀ i, i < 4 + 1 → look P i = 0) := next.out hz
          go_wp2_with (go_at_call 114; refine (i_bells _ _ _ _ _ _ _ _ _ _ _ _ P _ HPr.out).mono ?_; rintro e w2 ⟨rfl, b2⟩; rw [hz, ev0])
          go_roundw
          case rel => exact ⟨4 + 1, by omega, by first | rfl | go_num, on HB.out b2, NX⟩
          case measure => simp [intOf]
        · have FV : Hid (pfV P = bellsV P.own.length [] P.bells) := first.out hz
          have ev : errV (bellsV P.own.length [] P.bells) = .iface 165 (.agg #[.int .i64 (bellsV P.own.length [] P.bells)]) := by rw [errV, if_neg hz]
          clear hz
          go_wp2_with (go_at_call 114; refine (i_bells _ _ _ _ _ _ _ _ _ _ _ _ P _ HPr.out).mono ?_; rintro e w2 ⟨rfl, b2⟩; rw [ev])
          go_ret
          rw [FV.out, ev]
          exact ⟨rfl, on HBw.out b2⟩
      · have hc' : _ = Value.int .i64 5 := hc
        subst hc'
        have ix : ∀ W, (Instr.index 168 (.agg #[.func (.func 110) #[] #[], .func (.func 111) #[] #[], .func (.func 112) #[] #[], .func (.func 113) #[] #[], .func (.func 114) #[] #[], .func (.func 115) #[] #[]]) (.int .i64 5)).run Tryz.prog W = .ok (.func (.func 115) #[] #[]) W := fun W => by kernel_rfl
        by_cases hz : g6V P = 0
        · have NX : Hid (∀ i, i < 5 + 1 → look P i = 0) := next.out hz
          go_wp2_with (go_at_call 115; refine (i_plan _ _ _ _ _ _ _ _ _ _ _ _ P _ HPr.out).mono ?_; rintro e w2 ⟨rfl, b2⟩; rw [hz, ev0])
          go_roundw
          case rel => exact ⟨5 + 1, by omega, by first | rfl | go_num, on HB.out b2, NX⟩
          case measure => simp [intOf]
        · have FV : Hid (pfV P = g6V P) := first.out hz
          have ev : errV (g6V P) = .iface 165 (.agg #[.int .i64 (g6V P)]) := by rw [errV, if_neg hz]
          clear hz
          go_wp2_with (go_at_call 115; refine (i_plan _ _ _ _ _ _ _ _ _ _ _ _ P _ HPr.out).mono ?_; rintro e w2 ⟨rfl, b2⟩; rw [ev])
          go_ret
          rw [FV.out, ev]
          exact ⟨rfl, on HBw.out b2⟩
    · obtain rfl : j = 6 := by omega
      have hc' : _ = Value.int .i64 6 := hc
      subst hc'
      have FV : Hid (pfV P = 0) := look_none P hI.out
      go_wp2_with fail
      go_ret
      rw [FV.out]
      exact ⟨rfl, HBw.out⟩

set_option maxHeartbeats 1000000 in
theorem impl_policy (a0 a1 a2 a3 : Option Addr) (n0 c0 n1 c1 n2 c2 n3 c3 : Nat) (P : Plc) (w : World) (h : Pl w a0 n0 c0 a1 n1 c1 a2 n2 c2 a3 n3 c3 P) (hg : w.cell? ⟨0, 0, none⟩ = some (.iface 200 (.agg #[.pointer (some ⟨1, 136, none⟩)]))) :
    Calls Tryz.prog 53 #[.agg #[.slice a0 n0 c0, .slice a1 n1 c1, .slice a2 n2 c2, .slice a3 n3 c3]] w fun e w' => e = .returned (.int .i64 (pfV P)) ∧ Below w.heap.size w w' := by
  have HP1 : Hid (Pl (w.alloc (.cells #[.slice a0 n0 c0, .slice a1 n1 c1, .slice a2 n2 c2, .slice a3 n3 c3] 37)) a0 n0 c0 a1 n1 c1 a2 n2 c2 a3 n3 c3 P) := h.stay (al (Below.refl _ _) _)
  have HG : Hid (_ = _) := cell_push (.cells #[.slice a0 n0 c0, .slice a1 n1 c1, .slice a2 n2 c2, .slice a3 n3 c3] 37) hg
  have HB1 : Hid (Below w.heap.size w (w.alloc (.cells #[.slice a0 n0 c0, .slice a1 n1 c1, .slice a2 n2 c2, .slice a3 n3 c3] 37))) := al (Below.refl _ _) _
  clear h hg
  by_cases hz : pfV P = 0
  · have ev : errV (pfV P) = .nilIface := by rw [hz]; rfl
    rw [hz]
    go_enter Tryz.func53, Tryz.ntmps53
    go_wp2_with (first
      | (go_at_call 86; refine (i_check _ _ _ _ _ _ _ _ _ _ _ _ P _ HP1.out).mono ?_; rintro e w2 ⟨rfl, b2⟩; rw [ev])
      | (go_at_call 85; refine (code_nil _).mono ?_; rintro e w3 ⟨rfl, b3⟩))
    go_ret
    exact ⟨rfl, on (on HB1.out b2) b3⟩
  · have ev : errV (pfV P) = .iface 165 (.agg #[.int .i64 (pfV P)]) := by rw [errV, if_neg hz]
    go_enter Tryz.func53, Tryz.ntmps53
    go_wp2_with (first
      | (go_at_call 86; refine (i_check _ _ _ _ _ _ _ _ _ _ _ _ P _ HP1.out).mono ?_; rintro e w2 ⟨rfl, b2⟩; rw [ev])
      | (go_at_call 85; refine (code_hit _ _ (cell_keep b2 HG.out)).mono ?_; rintro e w3 ⟨rfl, b3⟩))
    go_ret
    exact ⟨rfl, on (on HB1.out b2) b3⟩
end Go.Proofs.YtggejbphdadckaaGreatDoor
