/- Texts of this seat, joined. -/
import Derived.Deep.WholeRow
import Derived.Deep.MidRow
import Derived.Deep.RegionHeld3
import Derived.Test.YthnaggeilbcioaaGreatDoorQ23
import Derived.Test.YthnaggeilbcioaaGreatDoorQ24
import Derived.Test.YthnaggeilbcioaaGreatDoorQ25
import Derived.Test.YthnaggeilbcioaaGreatDoorQ29
namespace Go.Proofs.YthnaggeilbcioaaGreatDoor
open Go.RowKit
set_option linter.unusedVariables false

set_option maxRecDepth 20000 in
set_option maxHeartbeats 4000000 in
theorem eqr_hart (r c i o r' c' i' o' : Value) (H : Ht) (w : World) (h : Hr w r c i o H) (k : Hr w r' c' i' o' H) :
    Calls Tryz.prog 72 #[.agg #[r, .int .i64 H.pc, c, .bool H.halted, .bool H.waiting, .bool H.rung, .int .i64 H.done, i, o], .agg #[r', .int .i64 H.pc, c', .bool H.halted, .bool H.waiting, .bool H.rung, .int .i64 H.done, i', o']] w fun e w' => e = .returned (.bool true) ∧ Below w.heap.size w w' := by
  obtain ⟨a0, k0, rfl, _⟩ := h.r
  obtain ⟨a1, k1, rfl, _⟩ := h.c
  obtain ⟨a2, k2, rfl, _⟩ := h.i
  obtain ⟨a3, k3, rfl, _⟩ := h.o
  obtain ⟨x0, l0, rfl, _⟩ := k.r
  obtain ⟨x1, l1, rfl, _⟩ := k.c
  obtain ⟨x2, l2, rfl, _⟩ := k.i
  obtain ⟨x3, l3, rfl, _⟩ := k.o
  have HM : Hid (Hr w _ _ _ _ H) := h
  have KM : Hid (Hr w _ _ _ _ H) := k
  clear h k
  generalize H.regs.length = n0 at *
  generalize H.csr.length = n1 at *
  generalize H.inn.length = n2 at *
  generalize H.out.length = n3 at *
  generalize hW : (w.alloc (.cells #[.slice a0 n0 k0, .int .i64 H.pc, .slice a1 n1 k1, .bool H.halted, .bool H.waiting, .bool H.rung, .int .i64 H.done, .slice a2 n2 k2, .slice a3 n3 k3] 34)).alloc (.cells #[.slice x0 n0 l0, .int .i64 H.pc, .slice x1 n1 l1, .bool H.halted, .bool H.waiting, .bool H.rung, .int .i64 H.done, .slice x2 n2 l2, .slice x3 n3 l3] 34) = W
  have B0 : Hid (Below w.heap.size w W) := by show Below _ _ _; rw [← hW]; exact al (al (Below.refl _ _) _) _
  obtain ⟨s, hS⟩ : ∃ s, w.heap.size = s := ⟨_, rfl⟩
  have VA : Hid (Vb W s #[.slice a0 n0 k0, .int .i64 H.pc, .slice a1 n1 k1, .bool H.halted, .bool H.waiting, .bool H.rung, .int .i64 H.done, .slice a2 n2 k2, .slice a3 n3 k3] 34) := by
    show Vb _ _ _ _
    rw [← hW, ← hS]
    exact (Vb.new _ _ _).push _
  have VB : Hid (Vb W (s + 1) #[.slice x0 n0 l0, .int .i64 H.pc, .slice x1 n1 l1, .bool H.halted, .bool H.waiting, .bool H.rung, .int .i64 H.done, .slice x2 n2 l2, .slice x3 n3 l3] 34) := by
    show Vb _ _ _ _
    have z1 : s + 1 = (w.alloc (.cells #[.slice a0 n0 k0, .int .i64 H.pc, .slice a1 n1 k1, .bool H.halted, .bool H.waiting, .bool H.rung, .int .i64 H.done, .slice a2 n2 k2, .slice a3 n3 k3] 34)).heap.size := by rw [← hS]; simp
    rw [← hW, z1]
    exact Vb.new _ _ _
  have q0 := VA.out.cell 0 rfl
  have p0 := VB.out.cell 0 rfl
  go_enter Tryz.func72, Tryz.ntmps72
  go_wp2_with fail
  clear hW hS q0 p0
  refine (eq_rn _ _ _ _ (HM.out.stay B0.out).r (KM.out.stay B0.out).r).mono ?_
  rintro e w1 ⟨rfl, b1⟩
  have B1 : Hid (Below w.heap.size w w1) := on B0.out b1
  have VA1 : Hid (Vb w1 _ _ _) := VA.out.keep b1
  have VB1 : Hid (Vb w1 _ _ _) := VB.out.keep b1
  have q1 := VA1.out.cell 1 rfl
  have p1 := VB1.out.cell 1 rfl
  have q2 := VA1.out.cell 2 rfl
  have p2 := VB1.out.cell 2 rfl
  clear b1 VA VB B0
  go_wp2_with fail
  clear q1 p1 q2 p2
  refine (eq_rn _ _ _ _ (HM.out.stay B1.out).c (KM.out.stay B1.out).c).mono ?_
  rintro e w2 ⟨rfl, b1⟩
  have B2 : Hid (Below w.heap.size w w2) := on B1.out b1
  have VA2 : Hid (Vb w2 _ _ _) := VA1.out.keep b1
  have VB2 : Hid (Vb w2 _ _ _) := VB1.out.keep b1
  have q3 := VA2.out.cell 3 rfl
  have p3 := VB2.out.cell 3 rfl
  have q4 := VA2.out.cell 4 rfl
  have p4 := VB2.out.cell 4 rfl
  have q5 := VA2.out.cell 5 rfl
  have p5 := VB2.out.cell 5 rfl
  have q6 := VA2.out.cell 6 rfl
  have p6 := VB2.out.cell 6 rfl
  have q7 := VA2.out.cell 7 rfl
  have p7 := VB2.out.cell 7 rfl
  clear b1 VA1 VB1 B1
  go_wp2_with fail
  clear q3 p3 q4 p4 q5 p5 q6 p6 q7 p7
  refine (eq_rn _ _ _ _ (HM.out.stay B2.out).i (KM.out.stay B2.out).i).mono ?_
  rintro e w3 ⟨rfl, b1⟩
  have B3 : Hid (Below w.heap.size w w3) := on B2.out b1
  have q8 := (VA2.out.keep b1).cell 8 rfl
  have p8 := (VB2.out.keep b1).cell 8 rfl
  clear b1 VA2 VB2 B2
  go_wp2_with fail
  refine (eq_rn _ _ _ _ (HM.out.stay B3.out).o (KM.out.stay B3.out).o).mono ?_
  rintro e w4 ⟨rfl, b1⟩
  go_wp2_with fail
  go_ret
  exact ⟨rfl, on B3.out b1⟩

end Go.Proofs.YthnaggeilbcioaaGreatDoor
namespace Go.Proofs.YthnaggeilbcioaaGreatDoor
open Go.RowKit
set_option linter.unusedVariables false

/-- A block whose first cells are these. -/
def Vc (w : World) (m : Nat) (cs : Array Value) : Prop := ∃ (C : Array Value) (t : TypeId), Vb w m C t ∧ ∀ (j : Nat) (x : Value), cs[j]? = some x → C[j]? = some x
theorem Vc.cell {w : World} {m : Nat} {cs : Array Value} (h : Vc w m cs) (j : Nat) {x : Value} (hx : cs[j]? = some x) : w.cell? ⟨m, j, none⟩ = some x := by
  obtain ⟨C, t, hv, hc⟩ := h
  exact hv.cell j (hc j x hx)
theorem Vc.keep {w w' : World} {m : Nat} {cs : Array Value} (h : Vc w m cs) (b : Below w.heap.size w w') : Vc w' m cs := by
  obtain ⟨C, t, hv, hc⟩ := h
  exact ⟨C, t, hv.keep b, hc⟩
theorem Vc.lt {w : World} {m : Nat} {cs : Array Value} (h : Vc w m cs) : m < w.heap.size := by
  obtain ⟨C, t, hv, hc⟩ := h
  exact hv.lt
theorem Vc.mq {S : Nat → Prop} {w w' : World} {m : Nat} {cs : Array Value} (h : Vc w m cs) (q : Mq S w w') (hn : ¬ S m) : Vc w' m cs := by
  obtain ⟨C, t, hv, hc⟩ := h
  exact ⟨C, t, q.vb hv hn, hc⟩
theorem mca_regs {w : World} {m : Nat} {H : Ht} {i o : Value} (h : Vc w m (mca H i o)) (hl : H.regs.length = 16) : Rn w (some ⟨m, 0, none⟩) 16 16 H.regs := by
  refine .inr ⟨_, rfl, Nat.le_refl _, by decide, hl, fun j hj => ?_⟩
  have e : j = 0 ∨ j = 1 ∨ j = 2 ∨ j = 3 ∨ j = 4 ∨ j = 5 ∨ j = 6 ∨ j = 7 ∨ j = 8 ∨ j = 9 ∨ j = 10 ∨ j = 11 ∨ j = 12 ∨ j = 13 ∨ j = 14 ∨ j = 15 := by omega
  rw [Addr.add_mid]
  rcases e with rfl | rfl | rfl | rfl | rfl | rfl | rfl | rfl | rfl | rfl | rfl | rfl | rfl | rfl | rfl | rfl
  · exact h.cell 0 rfl
  · exact h.cell 1 rfl
  · exact h.cell 2 rfl
  · exact h.cell 3 rfl
  · exact h.cell 4 rfl
  · exact h.cell 5 rfl
  · exact h.cell 6 rfl
  · exact h.cell 7 rfl
  · exact h.cell 8 rfl
  · exact h.cell 9 rfl
  · exact h.cell 10 rfl
  · exact h.cell 11 rfl
  · exact h.cell 12 rfl
  · exact h.cell 13 rfl
  · exact h.cell 14 rfl
  · exact h.cell 15 rfl
theorem mca_csr {w : World} {m : Nat} {H : Ht} {i o : Value} (h : Vc w m (mca H i o)) (hl : H.csr.length = 11) : Rn w (some ⟨m, 17, none⟩) 11 11 H.csr := by
  refine .inr ⟨_, rfl, Nat.le_refl _, by decide, hl, fun j hj => ?_⟩
  have e : j = 0 ∨ j = 1 ∨ j = 2 ∨ j = 3 ∨ j = 4 ∨ j = 5 ∨ j = 6 ∨ j = 7 ∨ j = 8 ∨ j = 9 ∨ j = 10 := by omega
  rw [Addr.add_mid]
  rcases e with rfl | rfl | rfl | rfl | rfl | rfl | rfl | rfl | rfl | rfl | rfl
  · exact h.cell 17 rfl
  · exact h.cell 18 rfl
  · exact h.cell 19 rfl
  · exact h.cell 20 rfl
  · exact h.cell 21 rfl
  · exact h.cell 22 rfl
  · exact h.cell 23 rfl
  · exact h.cell 24 rfl
  · exact h.cell 25 rfl
  · exact h.cell 26 rfl
  · exact h.cell 27 rfl

/-- The worlds behind W in which block q alone may have turned; its nine cells are there. -/
def Sj (W : World) (q : Nat) (w' : World) : Prop := Mq (fun k => k = q) W w' ∧ w'.there q 0 9
theorem Sj.step {W w w' : World} {q : Nat} (h : Sj W q w) (hq : q < W.heap.size) (b : Below w.heap.size w w') : Sj W q w' :=
  ⟨h.1.trans (Mq.of (below_grown b none) fun k e => by cases e), there_below h.2 (Nat.lt_of_lt_of_le hq h.1.size) b⟩
theorem Sj.put {W w : World} {q : Nat} (h : Sj W q w) (j : Nat) (u : Value) : Sj W q (w.setCell ⟨q, j, none⟩ u) := ⟨h.1.set _ _ rfl, World.there_setCells h.2 q j [u]⟩
theorem Sj.at {W w : World} {q : Nat} (h : Sj W q w) (j : Nat) (hj : j < 9) : (∃ v, w.cell? ⟨q, j, none⟩ = some v) ∧ w.frozen? ⟨q, j, none⟩ = false := by
  obtain ⟨h1, h2⟩ := h.2 j hj
  rw [Nat.zero_add] at h1 h2
  exact ⟨Option.isSome_iff_exists.1 h1, h2⟩

theorem Sj.set {W w : World} {q : Nat} (h : Sj W q w) (vs : List Value) : Sj W q (w.setCells q 0 vs) := ⟨h.1.trans (mq_cells q vs w 0), World.there_setCells h.2 _ _ _⟩

set_option maxRecDepth 20000 in
set_option maxHeartbeats 8000000 in
theorem i_hartV (m : Nat) (i o : Value) (H : Ht) (w : World) (hv : Vc w m (mca H i o)) (hi : Rv w i H.inn) (ho : Rv w o H.out) (hr : H.regs.length = 16) (hc : H.csr.length = 11) (h2 : H.inn.length ≤ 1000) (h3 : H.out.length ≤ 1000) :
    Calls Tryz.prog 65 #[.pointer (some ⟨m, 0, none⟩)] w fun e w' => ∃ r c i' o', e = .returned (.agg #[r, .int .i64 H.pc, c, .bool H.halted, .bool H.waiting, .bool H.rung, .int .i64 H.done, i', o']) ∧ Hm w' w.heap.size r c i' o' H ∧ Ha r c i' o' ∧ Below w.heap.size w w' := by
  obtain ⟨a2, k2, rfl, hi⟩ := hi
  obtain ⟨a3, k3, rfl, ho⟩ := ho
  have LN : Hid (H.regs.length = 16 ∧ H.csr.length = 11 ∧ H.inn.length ≤ 1000 ∧ H.out.length ≤ 1000) := ⟨hr, hc, h2, h3⟩
  have HI : Hid (Rn w a2 _ k2 H.inn) := hi
  have HO : Hid (Rn w a3 _ k3 H.out) := ho
  have HV : Hid (Vc w m _) := hv
  clear hr hc h2 h3 hi ho hv
  generalize H.inn.length = n2 at *
  generalize H.out.length = n3 at *
  generalize hW : w.alloc (.cells #[.slice none 0 0, .int .i64 0, .slice none 0 0, .bool false, .bool false, .bool false, .int .i64 0, .slice none 0 0, .slice none 0 0] 34) = W
  have B0 : Hid (Below w.heap.size w W) := by show Below _ _ _; rw [← hW]; exact al (Below.refl _ _) _
  obtain ⟨q, hq⟩ : ∃ q, w.heap.size = q := ⟨_, rfl⟩
  have HQ : Hid (w.heap.size = q) := hq
  have VR : Hid (Vb W q #[.slice none 0 0, .int .i64 0, .slice none 0 0, .bool false, .bool false, .bool false, .int .i64 0, .slice none 0 0, .slice none 0 0] 34) := by
    show Vb _ _ _ _; rw [← hW, ← hq]; exact Vb.new _ _ _
  have LT : Hid (q < W.heap.size) := VR.out.lt
  have ML : Hid (m < q) := by show _ < _; rw [← hq]; exact HV.out.lt
  have S0 : Hid (Sj W q W) := ⟨Mq.refl _ _, VR.out.there 9 (by decide)⟩
  have VS : Hid (∀ w', Sj W q w' → Vc w' m (mca H (.slice a2 n2 k2) (.slice a3 n3 k3))) := fun w' hs => (HV.out.keep B0.out).mq hs.1 (by have := ML.out; omega)
  have IS : Hid (∀ w', Sj W q w' → Rn w' a2 n2 k2 H.inn) := fun w' hs => HI.out.mq ((Mq.of (below_grown B0.out none) fun k e => by cases e).trans hs.1) fun x e hl f => by have := HQ.out; omega
  have OS : Hid (∀ w', Sj W q w' → Rn w' a3 n3 k3 H.out) := fun w' hs => HO.out.mq ((Mq.of (below_grown B0.out none) fun k e => by cases e).trans hs.1) fun x e hl f => by have := HQ.out; omega
  have q16 : ∀ w', Sj W q w' → w'.cell? ⟨m, 16, none⟩ = some (.int .i64 H.pc) := fun w' hs => (VS.out w' hs).cell 16 rfl
  have q28 : ∀ w', Sj W q w' → w'.cell? ⟨m, 28, none⟩ = some (.bool H.halted) := fun w' hs => (VS.out w' hs).cell 28 rfl
  have q29 : ∀ w', Sj W q w' → w'.cell? ⟨m, 29, none⟩ = some (.bool H.waiting) := fun w' hs => (VS.out w' hs).cell 29 rfl
  have q30 : ∀ w', Sj W q w' → w'.cell? ⟨m, 30, none⟩ = some (.bool H.rung) := fun w' hs => (VS.out w' hs).cell 30 rfl
  have q31 : ∀ w', Sj W q w' → w'.cell? ⟨m, 31, none⟩ = some (.int .i64 H.done) := fun w' hs => (VS.out w' hs).cell 31 rfl
  have q32 : ∀ w', Sj W q w' → w'.cell? ⟨m, 32, none⟩ = some (.slice a2 n2 k2) := fun w' hs => (VS.out w' hs).cell 32 rfl
  have q33 : ∀ w', Sj W q w' → w'.cell? ⟨m, 33, none⟩ = some (.slice a3 n3 k3) := fun w' hs => (VS.out w' hs).cell 33 rfl
  go_enter Tryz.func65, Tryz.ntmps65
  go_wp2_with fail
  clear hW hq
  have SD : Hid (Sj W q W.drew) := S0.out.step LT.out (Below.refl _ _).drew
  refine wp_region_held (S := fun w' => Sj W q w') (by kernel_rfl) ?_
  change wpAnyH _ _ _ _ _ _ _ _ (World.drew _)
  refine wpAnyH_take (i := 0) (v := .pointer (some ⟨m, 0, none⟩)) rfl (by kernel_rfl) (by kernel_rfl) (by kernel_rfl) (fun _ _ _ h => h) (Or.inl ⟨by rfl, fun w' hs => by go_simp⟩) SD.out ?_
  change wpAnyH _ _ _ _ _ _ _ (Act.put _ (some 3) _) _
  simp only [Act.put, List.setIfInBounds_toArray, List.set_cons_zero, List.set_cons_succ]
  refine wpAnyH_take (i := 1) (v := .pointer (some ⟨m, 0, none⟩)) rfl (by kernel_rfl) (by kernel_rfl) (by kernel_rfl) (fun _ _ _ h => h) (Or.inl ⟨by rfl, fun w' hs => by go_simp⟩) SD.out ?_
  change wpAnyH _ _ _ _ _ _ _ (Act.put _ (some 4) _) _
  simp only [Act.put, List.setIfInBounds_toArray, List.set_cons_zero, List.set_cons_succ]
  refine wpAnyH_take (i := 2) (v := .pointer (some ⟨m, 0, none⟩)) rfl (by kernel_rfl) (by kernel_rfl) (by kernel_rfl) (fun _ _ _ h => h) (Or.inl ⟨by rfl, fun w' hs => by go_simp⟩) SD.out ?_
  change wpAnyH _ _ _ _ _ _ _ (Act.put _ (some 5) _) _
  simp only [Act.put, List.setIfInBounds_toArray, List.set_cons_zero, List.set_cons_succ]
  refine wpAnyH_take (i := 3) (v := .pointer (some ⟨m, 0, none⟩)) rfl (by kernel_rfl) (by kernel_rfl) (by kernel_rfl) (fun _ _ _ h => h) (Or.inl ⟨by rfl, fun w' hs => by go_simp⟩) SD.out ?_
  change wpAnyH _ _ _ _ _ _ _ (Act.put _ (some 6) _) _
  simp only [Act.put, List.setIfInBounds_toArray, List.set_cons_zero, List.set_cons_succ]
  refine wpAnyH_take (i := 4) (v := .slice (some ⟨m, 0, none⟩) 16 16) rfl (by kernel_rfl) (by kernel_rfl) (by kernel_rfl) (fun _ _ _ h => h) (Or.inl ⟨by rfl, fun w' hs => by go_simp⟩) SD.out ?_
  change wpAnyH _ _ _ _ _ _ _ (Act.put _ (some 7) _) _
  simp only [Act.put, List.setIfInBounds_toArray, List.set_cons_zero, List.set_cons_succ]
  refine wpAnyH_take (i := 6) (v := .pointer (some ⟨m, 0, none⟩)) rfl (by kernel_rfl) (by kernel_rfl) (by kernel_rfl) (fun _ _ _ h => h) (Or.inl ⟨by rfl, fun w' hs => by go_simp⟩) SD.out ?_
  change wpAnyH _ _ _ _ _ _ _ (Act.put _ (some 9) _) _
  simp only [Act.put, List.setIfInBounds_toArray, List.set_cons_zero, List.set_cons_succ]
  refine wpAnyH_take (i := 7) (v := .pointer (some ⟨m, 0, none⟩)) rfl (by kernel_rfl) (by kernel_rfl) (by kernel_rfl) (fun _ _ _ h => h) (Or.inl ⟨by rfl, fun w' hs => by go_simp⟩) SD.out ?_
  change wpAnyH _ _ _ _ _ _ _ (Act.put _ (some 10) _) _
  simp only [Act.put, List.setIfInBounds_toArray, List.set_cons_zero, List.set_cons_succ]
  refine wpAnyH_take (i := 8) (v := .pointer (some ⟨m, 0, none⟩)) rfl (by kernel_rfl) (by kernel_rfl) (by kernel_rfl) (fun _ _ _ h => h) (Or.inl ⟨by rfl, fun w' hs => by go_simp⟩) SD.out ?_
  change wpAnyH _ _ _ _ _ _ _ (Act.put _ (some 11) _) _
  simp only [Act.put, List.setIfInBounds_toArray, List.set_cons_zero, List.set_cons_succ]
  refine wpAnyH_take (i := 9) (v := .pointer (some ⟨m, 16, none⟩)) rfl (by kernel_rfl) (by kernel_rfl) (by kernel_rfl) (fun _ _ _ h => h) (Or.inl ⟨by rfl, fun w' hs => by go_simp⟩) SD.out ?_
  change wpAnyH _ _ _ _ _ _ _ (Act.put _ (some 12) _) _
  simp only [Act.put, List.setIfInBounds_toArray, List.set_cons_zero, List.set_cons_succ]
  refine wpAnyH_take (i := 10) (v := .int .i64 H.pc) rfl (by kernel_rfl) (by kernel_rfl) (by kernel_rfl) (fun _ _ _ h => h) (Or.inl ⟨by rfl, fun w' hs => by go_simp⟩) SD.out ?_
  change wpAnyH _ _ _ _ _ _ _ (Act.put _ (some 13) _) _
  simp only [Act.put, List.setIfInBounds_toArray, List.set_cons_zero, List.set_cons_succ]
  refine wpAnyH_take (i := 11) (v := .pointer (some ⟨m, 0, none⟩)) rfl (by kernel_rfl) (by kernel_rfl) (by kernel_rfl) (fun _ _ _ h => h) (Or.inl ⟨by rfl, fun w' hs => by go_simp⟩) SD.out ?_
  change wpAnyH _ _ _ _ _ _ _ (Act.put _ (some 14) _) _
  simp only [Act.put, List.setIfInBounds_toArray, List.set_cons_zero, List.set_cons_succ]
  refine wpAnyH_take (i := 12) (v := .pointer (some ⟨m, 0, none⟩)) rfl (by kernel_rfl) (by kernel_rfl) (by kernel_rfl) (fun _ _ _ h => h) (Or.inl ⟨by rfl, fun w' hs => by go_simp⟩) SD.out ?_
  change wpAnyH _ _ _ _ _ _ _ (Act.put _ (some 15) _) _
  simp only [Act.put, List.setIfInBounds_toArray, List.set_cons_zero, List.set_cons_succ]
  refine wpAnyH_take (i := 13) (v := .pointer (some ⟨m, 0, none⟩)) rfl (by kernel_rfl) (by kernel_rfl) (by kernel_rfl) (fun _ _ _ h => h) (Or.inl ⟨by rfl, fun w' hs => by go_simp⟩) SD.out ?_
  change wpAnyH _ _ _ _ _ _ _ (Act.put _ (some 16) _) _
  simp only [Act.put, List.setIfInBounds_toArray, List.set_cons_zero, List.set_cons_succ]
  refine wpAnyH_take (i := 14) (v := .pointer (some ⟨m, 17, none⟩)) rfl (by kernel_rfl) (by kernel_rfl) (by kernel_rfl) (fun _ _ _ h => h) (Or.inl ⟨by rfl, fun w' hs => by go_simp⟩) SD.out ?_
  change wpAnyH _ _ _ _ _ _ _ (Act.put _ (some 17) _) _
  simp only [Act.put, List.setIfInBounds_toArray, List.set_cons_zero, List.set_cons_succ]
  refine wpAnyH_take (i := 15) (v := .slice (some ⟨m, 17, none⟩) 11 11) rfl (by kernel_rfl) (by kernel_rfl) (by kernel_rfl) (fun _ _ _ h => h) (Or.inl ⟨by rfl, fun w' hs => by go_simp⟩) SD.out ?_
  change wpAnyH _ _ _ _ _ _ _ (Act.put _ (some 18) _) _
  simp only [Act.put, List.setIfInBounds_toArray, List.set_cons_zero, List.set_cons_succ]
  refine wpAnyH_take (i := 17) (v := .pointer (some ⟨m, 0, none⟩)) rfl (by kernel_rfl) (by kernel_rfl) (by kernel_rfl) (fun _ _ _ h => h) (Or.inl ⟨by rfl, fun w' hs => by go_simp⟩) SD.out ?_
  change wpAnyH _ _ _ _ _ _ _ (Act.put _ (some 20) _) _
  simp only [Act.put, List.setIfInBounds_toArray, List.set_cons_zero, List.set_cons_succ]
  refine wpAnyH_take (i := 18) (v := .pointer (some ⟨m, 0, none⟩)) rfl (by kernel_rfl) (by kernel_rfl) (by kernel_rfl) (fun _ _ _ h => h) (Or.inl ⟨by rfl, fun w' hs => by go_simp⟩) SD.out ?_
  change wpAnyH _ _ _ _ _ _ _ (Act.put _ (some 21) _) _
  simp only [Act.put, List.setIfInBounds_toArray, List.set_cons_zero, List.set_cons_succ]
  refine wpAnyH_take (i := 19) (v := .pointer (some ⟨m, 28, none⟩)) rfl (by kernel_rfl) (by kernel_rfl) (by kernel_rfl) (fun _ _ _ h => h) (Or.inl ⟨by rfl, fun w' hs => by go_simp⟩) SD.out ?_
  change wpAnyH _ _ _ _ _ _ _ (Act.put _ (some 22) _) _
  simp only [Act.put, List.setIfInBounds_toArray, List.set_cons_zero, List.set_cons_succ]
  refine wpAnyH_take (i := 20) (v := .bool H.halted) rfl (by kernel_rfl) (by kernel_rfl) (by kernel_rfl) (fun _ _ _ h => h) (Or.inl ⟨by rfl, fun w' hs => by go_simp⟩) SD.out ?_
  change wpAnyH _ _ _ _ _ _ _ (Act.put _ (some 23) _) _
  simp only [Act.put, List.setIfInBounds_toArray, List.set_cons_zero, List.set_cons_succ]
  refine wpAnyH_take (i := 21) (v := .pointer (some ⟨m, 0, none⟩)) rfl (by kernel_rfl) (by kernel_rfl) (by kernel_rfl) (fun _ _ _ h => h) (Or.inl ⟨by rfl, fun w' hs => by go_simp⟩) SD.out ?_
  change wpAnyH _ _ _ _ _ _ _ (Act.put _ (some 24) _) _
  simp only [Act.put, List.setIfInBounds_toArray, List.set_cons_zero, List.set_cons_succ]
  refine wpAnyH_take (i := 22) (v := .pointer (some ⟨m, 0, none⟩)) rfl (by kernel_rfl) (by kernel_rfl) (by kernel_rfl) (fun _ _ _ h => h) (Or.inl ⟨by rfl, fun w' hs => by go_simp⟩) SD.out ?_
  change wpAnyH _ _ _ _ _ _ _ (Act.put _ (some 25) _) _
  simp only [Act.put, List.setIfInBounds_toArray, List.set_cons_zero, List.set_cons_succ]
  refine wpAnyH_take (i := 23) (v := .pointer (some ⟨m, 29, none⟩)) rfl (by kernel_rfl) (by kernel_rfl) (by kernel_rfl) (fun _ _ _ h => h) (Or.inl ⟨by rfl, fun w' hs => by go_simp⟩) SD.out ?_
  change wpAnyH _ _ _ _ _ _ _ (Act.put _ (some 26) _) _
  simp only [Act.put, List.setIfInBounds_toArray, List.set_cons_zero, List.set_cons_succ]
  refine wpAnyH_take (i := 24) (v := .bool H.waiting) rfl (by kernel_rfl) (by kernel_rfl) (by kernel_rfl) (fun _ _ _ h => h) (Or.inl ⟨by rfl, fun w' hs => by go_simp⟩) SD.out ?_
  change wpAnyH _ _ _ _ _ _ _ (Act.put _ (some 27) _) _
  simp only [Act.put, List.setIfInBounds_toArray, List.set_cons_zero, List.set_cons_succ]
  refine wpAnyH_take (i := 25) (v := .pointer (some ⟨m, 0, none⟩)) rfl (by kernel_rfl) (by kernel_rfl) (by kernel_rfl) (fun _ _ _ h => h) (Or.inl ⟨by rfl, fun w' hs => by go_simp⟩) SD.out ?_
  change wpAnyH _ _ _ _ _ _ _ (Act.put _ (some 28) _) _
  simp only [Act.put, List.setIfInBounds_toArray, List.set_cons_zero, List.set_cons_succ]
  refine wpAnyH_take (i := 26) (v := .pointer (some ⟨m, 0, none⟩)) rfl (by kernel_rfl) (by kernel_rfl) (by kernel_rfl) (fun _ _ _ h => h) (Or.inl ⟨by rfl, fun w' hs => by go_simp⟩) SD.out ?_
  change wpAnyH _ _ _ _ _ _ _ (Act.put _ (some 29) _) _
  simp only [Act.put, List.setIfInBounds_toArray, List.set_cons_zero, List.set_cons_succ]
  refine wpAnyH_take (i := 27) (v := .pointer (some ⟨m, 30, none⟩)) rfl (by kernel_rfl) (by kernel_rfl) (by kernel_rfl) (fun _ _ _ h => h) (Or.inl ⟨by rfl, fun w' hs => by go_simp⟩) SD.out ?_
  change wpAnyH _ _ _ _ _ _ _ (Act.put _ (some 30) _) _
  simp only [Act.put, List.setIfInBounds_toArray, List.set_cons_zero, List.set_cons_succ]
  refine wpAnyH_take (i := 28) (v := .bool H.rung) rfl (by kernel_rfl) (by kernel_rfl) (by kernel_rfl) (fun _ _ _ h => h) (Or.inl ⟨by rfl, fun w' hs => by go_simp⟩) SD.out ?_
  change wpAnyH _ _ _ _ _ _ _ (Act.put _ (some 31) _) _
  simp only [Act.put, List.setIfInBounds_toArray, List.set_cons_zero, List.set_cons_succ]
  refine wpAnyH_take (i := 29) (v := .pointer (some ⟨m, 0, none⟩)) rfl (by kernel_rfl) (by kernel_rfl) (by kernel_rfl) (fun _ _ _ h => h) (Or.inl ⟨by rfl, fun w' hs => by go_simp⟩) SD.out ?_
  change wpAnyH _ _ _ _ _ _ _ (Act.put _ (some 32) _) _
  simp only [Act.put, List.setIfInBounds_toArray, List.set_cons_zero, List.set_cons_succ]
  refine wpAnyH_take (i := 30) (v := .pointer (some ⟨m, 0, none⟩)) rfl (by kernel_rfl) (by kernel_rfl) (by kernel_rfl) (fun _ _ _ h => h) (Or.inl ⟨by rfl, fun w' hs => by go_simp⟩) SD.out ?_
  change wpAnyH _ _ _ _ _ _ _ (Act.put _ (some 33) _) _
  simp only [Act.put, List.setIfInBounds_toArray, List.set_cons_zero, List.set_cons_succ]
  refine wpAnyH_take (i := 31) (v := .pointer (some ⟨m, 31, none⟩)) rfl (by kernel_rfl) (by kernel_rfl) (by kernel_rfl) (fun _ _ _ h => h) (Or.inl ⟨by rfl, fun w' hs => by go_simp⟩) SD.out ?_
  change wpAnyH _ _ _ _ _ _ _ (Act.put _ (some 34) _) _
  simp only [Act.put, List.setIfInBounds_toArray, List.set_cons_zero, List.set_cons_succ]
  refine wpAnyH_take (i := 32) (v := .int .i64 H.done) rfl (by kernel_rfl) (by kernel_rfl) (by kernel_rfl) (fun _ _ _ h => h) (Or.inl ⟨by rfl, fun w' hs => by go_simp⟩) SD.out ?_
  change wpAnyH _ _ _ _ _ _ _ (Act.put _ (some 35) _) _
  simp only [Act.put, List.setIfInBounds_toArray, List.set_cons_zero, List.set_cons_succ]
  refine wpAnyH_take (i := 33) (v := .pointer (some ⟨m, 0, none⟩)) rfl (by kernel_rfl) (by kernel_rfl) (by kernel_rfl) (fun _ _ _ h => h) (Or.inl ⟨by rfl, fun w' hs => by go_simp⟩) SD.out ?_
  change wpAnyH _ _ _ _ _ _ _ (Act.put _ (some 36) _) _
  simp only [Act.put, List.setIfInBounds_toArray, List.set_cons_zero, List.set_cons_succ]
  refine wpAnyH_take (i := 34) (v := .pointer (some ⟨m, 0, none⟩)) rfl (by kernel_rfl) (by kernel_rfl) (by kernel_rfl) (fun _ _ _ h => h) (Or.inl ⟨by rfl, fun w' hs => by go_simp⟩) SD.out ?_
  change wpAnyH _ _ _ _ _ _ _ (Act.put _ (some 37) _) _
  simp only [Act.put, List.setIfInBounds_toArray, List.set_cons_zero, List.set_cons_succ]
  refine wpAnyH_take (i := 35) (v := .pointer (some ⟨m, 32, none⟩)) rfl (by kernel_rfl) (by kernel_rfl) (by kernel_rfl) (fun _ _ _ h => h) (Or.inl ⟨by rfl, fun w' hs => by go_simp⟩) SD.out ?_
  change wpAnyH _ _ _ _ _ _ _ (Act.put _ (some 38) _) _
  simp only [Act.put, List.setIfInBounds_toArray, List.set_cons_zero, List.set_cons_succ]
  refine wpAnyH_take (i := 36) (v := .slice a2 n2 k2) rfl (by kernel_rfl) (by kernel_rfl) (by kernel_rfl) (fun _ _ _ h => h) (Or.inl ⟨by rfl, fun w' hs => by go_simp⟩) SD.out ?_
  change wpAnyH _ _ _ _ _ _ _ (Act.put _ (some 39) _) _
  simp only [Act.put, List.setIfInBounds_toArray, List.set_cons_zero, List.set_cons_succ]
  refine wpAnyH_take (i := 38) (v := .pointer (some ⟨m, 0, none⟩)) rfl (by kernel_rfl) (by kernel_rfl) (by kernel_rfl) (fun _ _ _ h => h) (Or.inl ⟨by rfl, fun w' hs => by go_simp⟩) SD.out ?_
  change wpAnyH _ _ _ _ _ _ _ (Act.put _ (some 41) _) _
  simp only [Act.put, List.setIfInBounds_toArray, List.set_cons_zero, List.set_cons_succ]
  refine wpAnyH_take (i := 39) (v := .pointer (some ⟨m, 0, none⟩)) rfl (by kernel_rfl) (by kernel_rfl) (by kernel_rfl) (fun _ _ _ h => h) (Or.inl ⟨by rfl, fun w' hs => by go_simp⟩) SD.out ?_
  change wpAnyH _ _ _ _ _ _ _ (Act.put _ (some 42) _) _
  simp only [Act.put, List.setIfInBounds_toArray, List.set_cons_zero, List.set_cons_succ]
  refine wpAnyH_take (i := 40) (v := .pointer (some ⟨m, 33, none⟩)) rfl (by kernel_rfl) (by kernel_rfl) (by kernel_rfl) (fun _ _ _ h => h) (Or.inl ⟨by rfl, fun w' hs => by go_simp⟩) SD.out ?_
  change wpAnyH _ _ _ _ _ _ _ (Act.put _ (some 43) _) _
  simp only [Act.put, List.setIfInBounds_toArray, List.set_cons_zero, List.set_cons_succ]
  refine wpAnyH_take (i := 41) (v := .slice a3 n3 k3) rfl (by kernel_rfl) (by kernel_rfl) (by kernel_rfl) (fun _ _ _ h => h) (Or.inl ⟨by rfl, fun w' hs => by go_simp⟩) SD.out ?_
  change wpAnyH _ _ _ _ _ _ _ (Act.put _ (some 44) _) _
  simp only [Act.put, List.setIfInBounds_toArray, List.set_cons_zero, List.set_cons_succ]
  refine wpAnyH_ready (rs := [5]) (by kernel_rfl) (by simp) ?_
  refine AllReadyH.cons rfl (fun K hK => ?_) AllReadyH.nil
  rw [if_pos (by rfl)]
  go_simp
  refine (i_clone (some ⟨m, 0, none⟩) 16 16 H.regs _ (mca_regs (VS.out _ SD.out) LN.out.1) (by decide)).mono ?_
  rintro e w1 ⟨v1, rfl, m1, b1⟩
  obtain ⟨xa1, xk1, rfl, _⟩ := m1.shape
  have S1 : Hid (Sj W q w1) := SD.out.step LT.out b1
  have N1 : Hid (Nums w1 W.drew.heap.size (.slice xa1 H.regs.length xk1) H.regs) := m1
  have G1 : Hid (W.drew.heap.size ≤ w1.heap.size) := b1.size
  clear m1 b1
  refine hK.out _ _ S1.out (fun _ => ?_)
  clear hK K
  refine wpAnyH_ready (rs := [16]) (by kernel_rfl) (by simp) ?_
  refine AllReadyH.cons rfl (fun K hK => ?_) AllReadyH.nil
  rw [if_pos (by rfl)]
  go_simp
  refine (i_clone (some ⟨m, 17, none⟩) 11 11 H.csr _ (mca_csr (VS.out _ S1.out) LN.out.2.1) (by decide)).mono ?_
  rintro e w2 ⟨v2, rfl, m1, b1⟩
  obtain ⟨xa2, xk2, rfl, _⟩ := m1.shape
  have S2 : Hid (Sj W q w2) := S1.out.step LT.out b1
  have N2 : Hid (Nums w2 w1.heap.size (.slice xa2 H.csr.length xk2) H.csr) := m1
  have G2 : Hid (w1.heap.size ≤ w2.heap.size) := b1.size
  have H2 : Hid (Ho W.heap.size w1 w2) := Ho.of b1
  clear m1 b1
  refine hK.out _ _ S2.out (fun _ => ?_)
  clear hK K
  refine wpAnyH_ready (rs := [37]) (by kernel_rfl) (by simp) ?_
  refine AllReadyH.cons rfl (fun K hK => ?_) AllReadyH.nil
  rw [if_pos (by rfl)]
  go_simp
  refine (i_clone a2 n2 k2 H.inn _ (IS.out _ S2.out) (by have := LN.out.2.2.1; omega)).mono ?_
  rintro e w3 ⟨v3, rfl, m1, b1⟩
  obtain ⟨xa3, xk3, rfl, _⟩ := m1.shape
  have S3 : Hid (Sj W q w3) := S2.out.step LT.out b1
  have N3 : Hid (Nums w3 w2.heap.size (.slice xa3 H.inn.length xk3) H.inn) := m1
  have G3 : Hid (w2.heap.size ≤ w3.heap.size) := b1.size
  have H3 : Hid (Ho W.heap.size w2 w3) := Ho.of b1
  clear m1 b1
  refine hK.out _ _ S3.out (fun _ => ?_)
  clear hK K
  refine wpAnyH_ready (rs := [42]) (by kernel_rfl) (by simp) ?_
  refine AllReadyH.cons rfl (fun K hK => ?_) AllReadyH.nil
  rw [if_pos (by rfl)]
  go_simp
  refine (i_clone a3 n3 k3 H.out _ (OS.out _ S3.out) (by have := LN.out.2.2.2; omega)).mono ?_
  rintro e w4 ⟨v4, rfl, m1, b1⟩
  obtain ⟨xa4, xk4, rfl, _⟩ := m1.shape
  have S4 : Hid (Sj W q w4) := S3.out.step LT.out b1
  have N4 : Hid (Nums w4 w3.heap.size (.slice xa4 H.out.length xk4) H.out) := m1
  have G4 : Hid (w3.heap.size ≤ w4.heap.size) := b1.size
  have H4 : Hid (Ho W.heap.size w3 w4) := Ho.of b1
  clear m1 b1
  refine hK.out _ _ S4.out (fun _ => ?_)
  clear hK K
  refine wpAnyH_take (i := 43) (v := .agg #[.slice xa1 H.regs.length xk1, .int .i64 H.pc, .slice xa2 H.csr.length xk2, .bool H.halted, .bool H.waiting, .bool H.rung, .int .i64 H.done, .slice xa3 H.inn.length xk3, .slice xa4 H.out.length xk4]) rfl (by kernel_rfl) (by kernel_rfl) (by kernel_rfl) (fun _ _ _ h => h) (Or.inl ⟨by rfl, fun w' hs => by go_simp⟩) S4.out ?_
  change wpAnyH _ _ _ _ _ _ _ (Act.put _ (some 46) _) _
  simp only [Act.put, List.setIfInBounds_toArray, List.set_cons_zero, List.set_cons_succ]
  refine wpAnyH_ready (rs := [44]) (by kernel_rfl) (by simp) ?_
  refine AllReadyH.cons rfl (fun K hK => ?_) AllReadyH.nil
  rw [if_pos (by rfl)]
  refine wp_store_mid 34 (.tmp 2) (.tmp 46) rfl q 0 #[.slice xa1 H.regs.length xk1, .int .i64 H.pc, .slice xa2 H.csr.length xk2, .bool H.halted, .bool H.waiting, .bool H.rung, .int .i64 H.done, .slice xa3 H.inn.length xk3, .slice xa4 H.out.length xk4] rfl rfl S4.out.2 (by kernel_rfl) (by simp [Value.oneCell']) ?_
  change K (Act.put _ none undef) (World.setCells w4 q 0 [.slice xa1 H.regs.length xk1, .int .i64 H.pc, .slice xa2 H.csr.length xk2, .bool H.halted, .bool H.waiting, .bool H.rung, .int .i64 H.done, .slice xa3 H.inn.length xk3, .slice xa4 H.out.length xk4])
  simp only [Act.put]
  have S5 : Hid (Sj W q (w4.setCells q 0 [.slice xa1 H.regs.length xk1, .int .i64 H.pc, .slice xa2 H.csr.length xk2, .bool H.halted, .bool H.waiting, .bool H.rung, .int .i64 H.done, .slice xa3 H.inn.length xk3, .slice xa4 H.out.length xk4])) := S4.out.set _
  have R5 : Hid ((w4.setCells q 0 [.slice xa1 H.regs.length xk1, .int .i64 H.pc, .slice xa2 H.csr.length xk2, .bool H.halted, .bool H.waiting, .bool H.rung, .int .i64 H.done, .slice xa3 H.inn.length xk3, .slice xa4 H.out.length xk4]).rangeAt q 0 [.slice xa1 H.regs.length xk1, .int .i64 H.pc, .slice xa2 H.csr.length xk2, .bool H.halted, .bool H.waiting, .bool H.rung, .int .i64 H.done, .slice xa3 H.inn.length xk3, .slice xa4 H.out.length xk4]) := World.rangeAt_setCells_same _ _ _ _ S4.out.2
  have H5 : Hid (Ho W.heap.size w4 (w4.setCells q 0 [.slice xa1 H.regs.length xk1, .int .i64 H.pc, .slice xa2 H.csr.length xk2, .bool H.halted, .bool H.waiting, .bool H.rung, .int .i64 H.done, .slice xa3 H.inn.length xk3, .slice xa4 H.out.length xk4])) := (mq_cells q _ w4 0).ho fun k e => by have := LT.out; omega
  generalize w4.setCells q 0 [.slice xa1 H.regs.length xk1, .int .i64 H.pc, .slice xa2 H.csr.length xk2, .bool H.halted, .bool H.waiting, .bool H.rung, .int .i64 H.done, .slice xa3 H.inn.length xk3, .slice xa4 H.out.length xk4] = w5 at *
  refine hK.out _ _ S5.out (fun _ => ?_)
  clear hK K
  refine wpAnyH_done (by kernel_rfl) ?_ _
  have E1 : W.heap.size ≤ w1.heap.size := S1.out.1.size
  have E2 : W.heap.size ≤ w2.heap.size := S2.out.1.size
  have E3 : W.heap.size ≤ w3.heap.size := S3.out.1.size
  have Q1 : Nums w5 W.heap.size (.slice xa1 H.regs.length xk1) H.regs := Nums.ho (show Nums w1 W.heap.size _ H.regs from N1.out) (H2.out.trans (H3.out.trans (H4.out.trans H5.out)))
  have Q2 : Nums w5 W.heap.size (.slice xa2 H.csr.length xk2) H.csr := (N2.out.mono E1).ho (H3.out.trans (H4.out.trans H5.out))
  have Q3 : Nums w5 W.heap.size (.slice xa3 H.inn.length xk3) H.inn := (N3.out.mono E2).ho (H4.out.trans H5.out)
  have Q4 : Nums w5 W.heap.size (.slice xa4 H.out.length xk4) H.out := (N4.out.mono E3).ho H5.out
  have A12 := N1.out.apt N2.out (Nat.le_refl _)
  have A13 := N1.out.apt N3.out G2.out
  have A14 := N1.out.apt N4.out (Nat.le_trans G2.out G3.out)
  have A23 := N2.out.apt N3.out (Nat.le_refl _)
  have A24 := N2.out.apt N4.out G3.out
  have A34 := N3.out.apt N4.out (Nat.le_refl _)
  have B5 : Below w.heap.size w w5 := Mq.under B0.out S5.out.1 fun k e => by have := HQ.out; omega
  have LD := run_loadVar_mid (P := Tryz.prog) w5 q 0 34 [.slice xa1 H.regs.length xk1, .int .i64 H.pc, .slice xa2 H.csr.length xk2, .bool H.halted, .bool H.waiting, .bool H.rung, .int .i64 H.done, .slice xa3 H.inn.length xk3, .slice xa4 H.out.length xk4] _ R5.out Tryz.underlying34 rfl (by kernel_rfl)
  clear q16 q28 q29 q30 q31 q32 q33
  go_wp2_with fail
  exact bodyPost_ret (v := .agg #[.slice xa1 H.regs.length xk1, .int .i64 H.pc, .slice xa2 H.csr.length xk2, .bool H.halted, .bool H.waiting, .bool H.rung, .int .i64 H.done, .slice xa3 H.inn.length xk3, .slice xa4 H.out.length xk4]) (by simp [results, Tryz.results65, asAddr]; rw [LD]) rfl
    ⟨_, _, _, _, rfl, ⟨Q1.mono B0.out.size, Q2.mono B0.out.size, Q3.mono B0.out.size, Q4.mono B0.out.size⟩, ⟨A12, A13, A14, A23, A24, A34⟩, B5⟩
end Go.Proofs.YthnaggeilbcioaaGreatDoor
namespace Go.Proofs.YthnaggeilbcioaaGreatDoor
open Go.RowKit
set_option linter.unusedVariables false

/-- A lonely machine, read alone. -/
structure Sq (w : World) (base : Nat) (r c i o l m : Value) (H : Ht) (ps : List (Int × Int)) (zs : List Int) : Prop where
  h : Hr w r c i o H
  pl : Prs 77 w base l ps
  mm : Rv w m zs
theorem Sq.keep {w w' : World} {base : Nat} {r c i o l m : Value} {H : Ht} {ps : List (Int × Int)} {zs : List Int} (s : Sq w base r c i o l m H ps zs) (b : Below w.heap.size w w') : Sq w' base r c i o l m H ps zs :=
  ⟨s.h.stay b, s.pl.keep b, s.mm.stay b⟩
theorem Sm.sr {w : World} {base : Nat} {r c i o l m : Value} {H : Ht} {ps : List (Int × Int)} {zs : List Int} (s : Sm w base r c i o l m H ps zs) : Sq w base r c i o l m H ps zs := ⟨s.h.hr, s.pl, s.mm.rv⟩
set_option maxRecDepth 20000 in
set_option maxHeartbeats 4000000 in
theorem eqr_solo (r c i o l m r' c' i' o' l' m' : Value) (H : Ht) (ps : List (Int × Int)) (zs : List Int) (b b' : Nat) (w : World) (h : Sq w b r c i o l m H ps zs) (k : Sq w b' r' c' i' o' l' m' H ps zs) :
    Calls Tryz.prog 29 #[.agg #[r, .int .i64 H.pc, c, .bool H.halted, .bool H.waiting, .bool H.rung, .int .i64 H.done, i, o, l, m], .agg #[r', .int .i64 H.pc, c', .bool H.halted, .bool H.waiting, .bool H.rung, .int .i64 H.done, i', o', l', m']] w fun e w' => e = .returned (.bool true) ∧ Below w.heap.size w w' := by
  have HS : Hid (Sq w b r c i o l m H ps zs) := h
  have KS : Hid (Sq w b' r' c' i' o' l' m' H ps zs) := k
  obtain ⟨ha0, hk0, eh0, _⟩ := h.h.r
  obtain ⟨ha1, hk1, eh1, _⟩ := h.h.c
  obtain ⟨ha2, hk2, eh2, _⟩ := h.h.i
  obtain ⟨ha3, hk3, eh3, _⟩ := h.h.o
  obtain ⟨ha4, hk4, eh4, _⟩ := h.pl.shape
  obtain ⟨ha5, hk5, eh5, _⟩ := h.mm
  obtain ⟨ka0, kk0, ek0, _⟩ := k.h.r
  obtain ⟨ka1, kk1, ek1, _⟩ := k.h.c
  obtain ⟨ka2, kk2, ek2, _⟩ := k.h.i
  obtain ⟨ka3, kk3, ek3, _⟩ := k.h.o
  obtain ⟨ka4, kk4, ek4, _⟩ := k.pl.shape
  obtain ⟨ka5, kk5, ek5, _⟩ := k.mm
  clear h k
  subst eh0 ek0 eh1 ek1 eh2 ek2 eh3 ek3 eh4 ek4 eh5 ek5
  generalize hn0 : H.regs.length = n0 at *
  generalize hn1 : H.csr.length = n1 at *
  generalize hn2 : H.inn.length = n2 at *
  generalize hn3 : H.out.length = n3 at *
  generalize hn4 : ps.length = n4 at *
  generalize hn5 : zs.length = n5 at *
  clear hn0 hn1 hn2 hn3 hn4 hn5
  generalize hW : (w.alloc (.cells #[.slice ha0 n0 hk0, .int .i64 H.pc, .slice ha1 n1 hk1, .bool H.halted, .bool H.waiting, .bool H.rung, .int .i64 H.done, .slice ha2 n2 hk2, .slice ha3 n3 hk3, .slice ha4 n4 hk4, .slice ha5 n5 hk5] 37)).alloc (.cells #[.slice ka0 n0 kk0, .int .i64 H.pc, .slice ka1 n1 kk1, .bool H.halted, .bool H.waiting, .bool H.rung, .int .i64 H.done, .slice ka2 n2 kk2, .slice ka3 n3 kk3, .slice ka4 n4 kk4, .slice ka5 n5 kk5] 37) = W
  have B0 : Hid (Below w.heap.size w W) := by show Below _ _ _; rw [← hW]; exact al (al (Below.refl _ _) _) _
  obtain ⟨s, hS⟩ : ∃ s, w.heap.size = s := ⟨_, rfl⟩
  have z1 : s + 1 = (w.alloc (.cells #[.slice ha0 n0 hk0, .int .i64 H.pc, .slice ha1 n1 hk1, .bool H.halted, .bool H.waiting, .bool H.rung, .int .i64 H.done, .slice ha2 n2 hk2, .slice ha3 n3 hk3, .slice ha4 n4 hk4, .slice ha5 n5 hk5] 37)).heap.size := by rw [← hS]; simp
  have Q : Hid (Vb W s #[.slice ha0 n0 hk0, .int .i64 H.pc, .slice ha1 n1 hk1, .bool H.halted, .bool H.waiting, .bool H.rung, .int .i64 H.done, .slice ha2 n2 hk2, .slice ha3 n3 hk3, .slice ha4 n4 hk4, .slice ha5 n5 hk5] 37) := by show Vb _ _ _ _; rw [← hW, ← hS]; exact (Vb.new _ _ _).push _
  have R : Hid (Vb W (s + 1) #[.slice ka0 n0 kk0, .int .i64 H.pc, .slice ka1 n1 kk1, .bool H.halted, .bool H.waiting, .bool H.rung, .int .i64 H.done, .slice ka2 n2 kk2, .slice ka3 n3 kk3, .slice ka4 n4 kk4, .slice ka5 n5 kk5] 37) := by show Vb _ _ _ _; rw [← hW, z1]; exact Vb.new _ _ _
  clear z1
  have q0 := Q.out.cell 0 rfl
  have q1 := Q.out.cell 1 rfl
  have q2 := Q.out.cell 2 rfl
  have q3 := Q.out.cell 3 rfl
  have q4 := Q.out.cell 4 rfl
  have q5 := Q.out.cell 5 rfl
  have q6 := Q.out.cell 6 rfl
  have q7 := Q.out.cell 7 rfl
  have q8 := Q.out.cell 8 rfl
  have p0 := R.out.cell 0 rfl
  have p1 := R.out.cell 1 rfl
  have p2 := R.out.cell 2 rfl
  have p3 := R.out.cell 3 rfl
  have p4 := R.out.cell 4 rfl
  have p5 := R.out.cell 5 rfl
  have p6 := R.out.cell 6 rfl
  have p7 := R.out.cell 7 rfl
  have p8 := R.out.cell 8 rfl
  go_enter Tryz.func29, Tryz.ntmps29
  go_wp2_with fail
  clear hW hS q0 q1 q2 q3 q4 q5 q6 q7 q8 p0 p1 p2 p3 p4 p5 p6 p7 p8
  refine (eqr_hart _ _ _ _ _ _ _ _ H _ (HS.out.h.stay B0.out) (KS.out.h.stay B0.out)).mono ?_
  rintro e w1 ⟨rfl, b1⟩
  have B1 : Hid (Below w.heap.size w w1) := on B0.out b1
  have Q1 := Q.out.keep b1
  have R1 := R.out.keep b1
  have q9 := Q1.cell 9 rfl
  have p9 := R1.cell 9 rfl
  have QR : Hid (_ ∧ _) := And.intro Q1 R1
  clear b1 Q1 R1 Q R
  go_wp2_with fail
  clear q9 p9
  refine (eq_pages _ _ ps _ _ _ (HS.out.pl.keep B1.out) (KS.out.pl.keep B1.out)).mono ?_
  rintro e w2 ⟨rfl, b2⟩
  have B2 : Hid (Below w.heap.size w w2) := on B1.out b2
  have q10 := (QR.out.1.keep b2).cell 10 rfl
  have p10 := (QR.out.2.keep b2).cell 10 rfl
  clear b2 QR
  go_wp2_with fail
  clear q10 p10
  refine (eq_rn _ _ zs _ (HS.out.mm.stay B2.out) (KS.out.mm.stay B2.out)).mono ?_
  rintro e w3 ⟨rfl, b3⟩
  have B3 : Hid (Below w.heap.size w w3) := on B2.out b3
  clear b3
  go_wp2_with fail
  go_ret
  exact ⟨rfl, B3.out⟩
set_option maxRecDepth 20000 in
set_option maxHeartbeats 4000000 in
theorem eq_sres (x : Int) (r c i o l m r' c' i' o' l' m' : Value) (H : Ht) (ps : List (Int × Int)) (zs : List Int) (b b' : Nat) (w : World) (h : Sq w b r c i o l m H ps zs) (k : Sq w b' r' c' i' o' l' m' H ps zs) :
    Calls Tryz.prog 8 #[.agg #[.int .i64 x, r, .int .i64 H.pc, c, .bool H.halted, .bool H.waiting, .bool H.rung, .int .i64 H.done, i, o, l, m], .agg #[.int .i64 x, r', .int .i64 H.pc, c', .bool H.halted, .bool H.waiting, .bool H.rung, .int .i64 H.done, i', o', l', m']] w fun e w' => e = .returned (.bool true) ∧ Below w.heap.size w w' := by
  have HM : Hid (Sq w b r c i o l m H ps zs) := h
  have KM : Hid (Sq w b' r' c' i' o' l' m' H ps zs) := k
  obtain ⟨ha0, hk0, rfl, _⟩ := h.h.r
  obtain ⟨ha1, hk1, rfl, _⟩ := h.h.c
  obtain ⟨ha2, hk2, rfl, _⟩ := h.h.i
  obtain ⟨ha3, hk3, rfl, _⟩ := h.h.o
  obtain ⟨ha4, hk4, rfl, _⟩ := h.pl.shape
  obtain ⟨ha5, hk5, rfl, _⟩ := h.mm
  obtain ⟨ka0, kk0, rfl, _⟩ := k.h.r
  obtain ⟨ka1, kk1, rfl, _⟩ := k.h.c
  obtain ⟨ka2, kk2, rfl, _⟩ := k.h.i
  obtain ⟨ka3, kk3, rfl, _⟩ := k.h.o
  obtain ⟨ka4, kk4, rfl, _⟩ := k.pl.shape
  obtain ⟨ka5, kk5, rfl, _⟩ := k.mm
  clear h k
  generalize H.regs.length = n0 at *
  generalize H.csr.length = n1 at *
  generalize H.inn.length = n2 at *
  generalize H.out.length = n3 at *
  generalize ps.length = n4 at *
  generalize zs.length = n5 at *
  go_enter Tryz.func8, Tryz.ntmps8
  go_wp2_with fail
  refine (eqr_solo _ _ _ _ _ _ _ _ _ _ _ _ H ps zs _ _ _ (HM.out.keep (al (al (Below.refl _ _) _) _)) (KM.out.keep (al (al (Below.refl _ _) _) _))).mono ?_
  rintro e w1 ⟨rfl, b1⟩
  go_wp2_with fail
  go_ret
  exact ⟨rfl, on (al (al (Below.refl _ _) _) _) b1⟩
set_option maxRecDepth 20000 in
set_option maxHeartbeats 4000000 in
theorem mark_sres (x : Int) (r c i o l m : Value) (H : Ht) (ps : List (Int × Int)) (zs : List Int) (k : Int) (b : Nat) (w : World) (h : Sm w b r c i o l m H ps zs) (hk : 0 ≤ k) (hz : k + totS H ps zs ≤ 4611686018427387904) :
    Calls Tryz.prog 11 #[.agg #[.int .i64 x, r, .int .i64 H.pc, c, .bool H.halted, .bool H.waiting, .bool H.rung, .int .i64 H.done, i, o, l, m], .int .i64 k] w fun e w' => e = .returned (.int .i64 (k + totS H ps zs)) ∧ Sm w' b r c i o l m (mkH k H) (pmarks (k + totH H) ps.length) (marks (k + totH H + (2 * ps.length : Nat)) zs.length) ∧ Mq (OwnS r c i o l m) w w' := by
  have HM : Hid (Sm w b r c i o l m H ps zs) := h
  have HK : Hid (0 ≤ k ∧ k + totS H ps zs ≤ 4611686018427387904) := ⟨hk, hz⟩
  obtain ⟨ha0, hk0, rfl, _⟩ := h.h.r.shape
  obtain ⟨ha1, hk1, rfl, _⟩ := h.h.c.shape
  obtain ⟨ha2, hk2, rfl, _⟩ := h.h.i.shape
  obtain ⟨ha3, hk3, rfl, _⟩ := h.h.o.shape
  obtain ⟨ha4, hk4, rfl, _⟩ := h.pl.shape
  obtain ⟨ha5, hk5, rfl, _⟩ := h.mm.shape
  clear h hk hz
  obtain ⟨T, hT⟩ : ∃ T : Int, k + totS H ps zs = T := ⟨_, rfl⟩
  obtain ⟨n4, hn4⟩ : ∃ n, ps.length = n := ⟨_, rfl⟩
  obtain ⟨n5, hn5⟩ : ∃ n, zs.length = n := ⟨_, rfl⟩
  have L4 : Hid (ps.length = n4) := hn4
  have L5 : Hid (zs.length = n5) := hn5
  rw [hn4, hn5] at HM ⊢
  rw [hT]
  have HT : Hid (k + totS H ps zs = T) := hT
  clear hT hn4 hn5
  generalize H.regs.length = n0 at *
  generalize H.csr.length = n1 at *
  generalize H.inn.length = n2 at *
  generalize H.out.length = n3 at *
  go_enter Tryz.func11, Tryz.ntmps11
  go_wp2_with fail
  refine (mark_solo _ _ _ _ _ _ H ps zs _ _ _ (HM.out.keep (al (Below.refl _ _) _)) HK.out.1 HK.out.2).mono ?_
  rw [HT.out, L4.out, L5.out]
  rintro e w1 ⟨rfl, m1, g1⟩
  have N1 : Hid (Sm w1 b _ _ _ _ _ _ _ _ _) := m1
  have G1 : Hid (Mq _ _ _) := Mq.pre g1
  clear m1 g1
  go_wp2_with fail
  go_ret
  exact ⟨rfl, N1.out, G1.out⟩
set_option maxRecDepth 20000 in
set_option maxHeartbeats 4000000 in
theorem held_sres (x : Int) (r c i o l m : Value) (H : Ht) (np nz : Nat) (k : Int) (b : Nat) (w : World) (h : Hm w b r c i o (mkH k H)) (hl : Prs 77 w b l (pmarks (k + totH H) np)) (hm : Nums w b m (marks (k + totH H + (2 * np : Nat)) nz)) (hk : 0 ≤ k) (hz : k + totH H + (2 * np : Nat) + nz ≤ 4611686018427387904) :
    Calls Tryz.prog 12 #[.agg #[.int .i64 x, r, .int .i64 H.pc, c, .bool H.halted, .bool H.waiting, .bool H.rung, .int .i64 H.done, i, o, l, m], .int .i64 k] w fun e w' => e = .returned (.int .i64 (k + totH H + (2 * np : Nat) + nz)) ∧ Below w.heap.size w w' := by
  have HM : Hid (Hm w b r c i o (mkH k H) ∧ Prs 77 w b l (pmarks (k + totH H) np) ∧ Nums w b m (marks (k + totH H + (2 * np : Nat)) nz)) := ⟨h, hl, hm⟩
  have HK : Hid (0 ≤ k ∧ k + totH H + (2 * np : Nat) + nz ≤ 4611686018427387904) := ⟨hk, hz⟩
  obtain ⟨a0, k0, rfl, _⟩ := h.r.shape
  obtain ⟨a1, k1, rfl, _⟩ := h.c.shape
  obtain ⟨a2, k2, rfl, _⟩ := h.i.shape
  obtain ⟨a3, k3, rfl, _⟩ := h.o.shape
  obtain ⟨a4, k4, rfl, _⟩ := hl.shape
  obtain ⟨a5, k5, rfl, _⟩ := hm.shape
  clear h hl hm
  obtain ⟨T, hT⟩ : ∃ T : Int, k + totH H + (2 * np : Nat) + nz = T := ⟨_, rfl⟩
  have hp : 0 ≤ T := by omega
  rw [hT]
  have HT : Hid (k + totH H + (2 * np : Nat) + nz = T) := hT
  clear hT hk hz
  generalize (mkH k H).regs.length = n0 at *
  generalize (mkH k H).csr.length = n1 at *
  generalize (mkH k H).inn.length = n2 at *
  generalize (mkH k H).out.length = n3 at *
  generalize (pmarks (k + totH H) np).length = n4 at *
  generalize (marks (k + totH H + (2 * np : Nat)) nz).length = n5 at *
  go_enter Tryz.func12, Tryz.ntmps12
  go_wp2_with fail
  refine (held_solo _ _ _ _ _ _ H np nz _ _ _ (HM.out.1.keep (al (Below.refl _ _) _)) (HM.out.2.1.keep (al (Below.refl _ _) _)) (HM.out.2.2.keep (al (Below.refl _ _) _)) HK.out.1 HK.out.2).mono ?_
  rintro e w1 ⟨rfl, b1⟩
  rw [HT.out]
  go_wp2_with fail
  go_ret
  exact ⟨rfl, on (al (Below.refl _ _) _) b1⟩
end Go.Proofs.YthnaggeilbcioaaGreatDoor
namespace Go.Proofs.YthnaggeilbcioaaGreatDoor
open Go.RowKit
set_option linter.unusedVariables false

theorem thereB {w w' : World} {q o n : Nat} (h : w.there q o n) (hq : q < w.heap.size) (b : Below w.heap.size w w') : w'.there q o n := fun j hj => by
  obtain ⟨h1, h2⟩ := h j hj
  refine ⟨?_, ?_⟩
  · rw [b.cell (p := ⟨q, o + j, none⟩) hq]; exact h1
  · rw [b.frozen (p := ⟨q, o + j, none⟩) hq]; exact h2
theorem mqC (q : Nat) : ∀ (vs : List Value) (w : World) (o : Nat), Mq (fun k => k = q) w (w.setCells q o vs)
  | [], w, o => Mq.refl _ _
  | v :: vs, w, o => ((Mq.refl (fun k => k = q) w).set ⟨q, o, none⟩ v rfl).trans (mqC q vs _ (o + 1))
/-- Machines in a list of the call's own, with their lists. -/
def Hl (w : World) (base : Nat) (v : Value) (hs : List Ht) : Prop :=
  (v = .slice none 0 0 ∧ hs = []) ∨
  ∃ g cap, v = .slice (some ⟨g, 0, none⟩) hs.length cap ∧ hs.length ≤ cap ∧ cap ≤ maxLen ∧ base ≤ g ∧ ∀ k, k < hs.length → ∃ r c i o, Hc w ⟨g, k * 9, none⟩ r c i o (hs.getD k voidH) ∧ Hm w base r c i o (hs.getD k voidH) ∧ Ha r c i o
theorem Hl.keep {w w' : World} {base : Nat} {v : Value} {hs : List Ht} (h : Hl w base v hs) (b : Below w.heap.size w w') : Hl w' base v hs := by
  rcases h with h | ⟨g, cap, h1, h2, h3, h4, h5⟩
  · exact .inl h
  · refine .inr ⟨g, cap, h1, h2, h3, h4, fun k hk => ?_⟩
    obtain ⟨r, c, i, o, g1, g2, g3⟩ := h5 k hk
    exact ⟨r, c, i, o, g1.stay b, g2.keep b, g3⟩
theorem Hl.mono {w : World} {base base' : Nat} {v : Value} {hs : List Ht} (h : Hl w base v hs) (hb : base' ≤ base) : Hl w base' v hs := by
  rcases h with h | ⟨g, cap, h1, h2, h3, h4, h5⟩
  · exact .inl h
  · refine .inr ⟨g, cap, h1, h2, h3, Nat.le_trans hb h4, fun k hk => ?_⟩
    obtain ⟨r, c, i, o, g1, g2, g3⟩ := h5 k hk
    exact ⟨r, c, i, o, g1, g2.mono hb, g3⟩
theorem Hl.shape {w : World} {base : Nat} {v : Value} {hs : List Ht} (h : Hl w base v hs) : ∃ a cap, v = .slice a hs.length cap ∧ hs.length ≤ cap ∧ cap ≤ maxLen ∧ (0 < hs.length → ∃ g, a = some ⟨g, 0, none⟩) := by
  rcases h with ⟨rfl, rfl⟩ | ⟨g, cap, h1, h2, h3, _⟩
  · exact ⟨none, 0, rfl, Nat.le_refl _, by unfold maxLen; omega, fun h => by simp at h⟩
  · exact ⟨_, cap, h1, h2, h3, fun _ => ⟨g, rfl⟩⟩
theorem Hl.at {w : World} {base : Nat} {g n cap : Nat} {hs : List Ht} (h : Hl w base (.slice (some ⟨g, 0, none⟩) n cap) hs) (k : Nat) (hk : k < hs.length) : ∃ r c i o, Hc w ⟨g, k * 9, none⟩ r c i o (hs.getD k voidH) ∧ Hm w base r c i o (hs.getD k voidH) ∧ Ha r c i o := by
  rcases h with ⟨h, _⟩ | ⟨g', cap', h1, h2, h3, h4, h5⟩
  · cases h
  · simp at h1
    obtain ⟨rfl, _⟩ := h1
    exact h5 k hk
theorem info_hart : (Tryz.prog.info? 34).map (fun i => (i.zero, i.size, i.bytes)) = some (some (.agg #[.slice none 0 0, .int .i64 0, .slice none 0 0, .bool false, .bool false, .bool false, .int .i64 0, .slice none 0 0, .slice none 0 0]), 9, 120) := by kernel_rfl
theorem Hc.put {w : World} {p : Addr} {r c i o : Value} {H : Ht} {g off : Nat} {vs : List Value} (h : Hc w p r c i o H) (hs : p.spot = none) (hn : p.block = g → p.off + 9 ≤ off ∨ off + vs.length ≤ p.off) : Hc (w.setCells g off vs) p r c i o H := by
  have k : ∀ (q : Addr), q.block = p.block → p.off ≤ q.off → q.off < p.off + 9 → (w.setCells g off vs).cell? q = w.cell? q := fun q hq h1 h2 => World.cell?_setCells_out _ _ _ _ _ fun e _ => by have := hn (hq.symm.trans e); omega
  exact ⟨(k p rfl (Nat.le_refl _) (by omega)).trans h.c0, (k ⟨p.block, p.off + 1, none⟩ rfl (Nat.le_add_right _ _) (Nat.add_lt_add_left (by decide) _)).trans h.c1, (k ⟨p.block, p.off + 2, none⟩ rfl (Nat.le_add_right _ _) (Nat.add_lt_add_left (by decide) _)).trans h.c2, (k ⟨p.block, p.off + 3, none⟩ rfl (Nat.le_add_right _ _) (Nat.add_lt_add_left (by decide) _)).trans h.c3, (k ⟨p.block, p.off + 4, none⟩ rfl (Nat.le_add_right _ _) (Nat.add_lt_add_left (by decide) _)).trans h.c4, (k ⟨p.block, p.off + 5, none⟩ rfl (Nat.le_add_right _ _) (Nat.add_lt_add_left (by decide) _)).trans h.c5, (k ⟨p.block, p.off + 6, none⟩ rfl (Nat.le_add_right _ _) (Nat.add_lt_add_left (by decide) _)).trans h.c6, (k ⟨p.block, p.off + 7, none⟩ rfl (Nat.le_add_right _ _) (Nat.add_lt_add_left (by decide) _)).trans h.c7, (k ⟨p.block, p.off + 8, none⟩ rfl (Nat.le_add_right _ _) (Nat.add_lt_add_left (by decide) _)).trans h.c8⟩
theorem Hc.new {w : World} {g off : Nat} {r c i o : Value} {H : Ht} (ht : w.there g off 9) : Hc (w.setCells g off [r, .int .i64 H.pc, c, .bool H.halted, .bool H.waiting, .bool H.rung, .int .i64 H.done, i, o]) ⟨g, off, none⟩ r c i o H := by
  have k := World.rangeAt_setCells_same w g off [r, .int .i64 H.pc, c, .bool H.halted, .bool H.waiting, .bool H.rung, .int .i64 H.done, i, o] ht
  exact ⟨k 0 _ rfl, k 1 _ rfl, k 2 _ rfl, k 3 _ rfl, k 4 _ rfl, k 5 _ rfl, k 6 _ rfl, k 7 _ rfl, k 8 _ rfl⟩
set_option maxRecDepth 20000 in
set_option maxHeartbeats 4000000 in
theorem to_hartsT (a : Option Addr) (len cap : Nat) (hs : List Ht) (w : World) (h : IsHs w a len cap hs) (hl : len ≤ 1048576) (hS : ∀ i, i < len → Hsm (hs.getD i voidH)) :
    Calls Tryz.prog 21 #[.slice a len cap] w fun e w' => ∃ g, e = .returned (.slice (some ⟨g, 0, none⟩) len len) ∧ Hl w' w.heap.size (.slice (some ⟨g, 0, none⟩) len len) hs ∧ Below w.heap.size w w' ∧ w'.there g 0 (len * 9) ∧ g < w'.heap.size := by
  obtain ⟨i, hi, hz0, hz1, hz2⟩ := info_parts info_hart
  have hlen : Hid (len = hs.length) := h.len.1
  have HR : Hid (IsHs w a len cap hs) := h
  have HSS : Hid (∀ i, i < len → Hsm (hs.getD i voidH)) := hS
  have HSM : Hid (len ≤ 1048576) := hl
  clear h hS
  go_enter Tryz.func21, Tryz.ntmps21
  go_wp2_with (at_make; refine wpList_make_full _ rfl _ _ 46 rfl w.heap.size 34 i _ 9 Tryz.underlying46 hi hz0 hz1 _ _ _ _ len rfl rfl rfl rfl (by rw [hz2]; omega) (by unfold maxLen; omega) (Nat.le_refl _) ?_; intro w1 hown hgrow)
  obtain ⟨g, hg⟩ : ∃ g, w.heap.size = g := ⟨_, rfl⟩
  have HG : Hid (w.heap.size = g) := hg
  have T1 : Hid (w1.there g 0 (len * 9)) := by
    show w1.there _ _ _
    rw [← hg]
    intro k hk
    have hl := hown.1
    rw [Nat.zero_add]
    refine ⟨?_, World.ownsRow.frozenAt hown k⟩
    rw [World.ownsRow.cellAt hown k (by omega), List.getElem?_eq_getElem (by omega)]
    rfl
  have B1 : Hid (Below w.heap.size w w1) := (Below.refl _ _).grown hgrow (Nat.le_refl _) (by simp)
  have G1 : Hid (g < w1.heap.size) := by
    have := (World.ownsRow.lt hown w.heap.size rfl).2
    show _ < _
    rw [← hg]
    exact this
  clear hown hgrow hi hz0 hz1 hz2
  rw [hg]
  clear hg
  go_wp2_with fail
  go_loopw [4] (fun c wr => ∃ (j : Nat), j ≤ len ∧ c = .int .i64 j ∧ wr.there g 0 (len * 9) ∧ Below w.heap.size w wr ∧ g < wr.heap.size ∧
    (∀ k, k < j → ∃ r c i o, Hc wr ⟨g, k * 9, none⟩ r c i o (hs.getD k voidH) ∧ Hm wr (g + 1) r c i o (hs.getD k voidH) ∧ Ha r c i o)) (fun c _ => len - (intOf c).toNat)
  case atStart => exact ⟨0, Nat.zero_le _, rfl, T1.out, B1.out, G1.out, fun i hi => absurd hi (Nat.not_lt_zero _)⟩
  case round =>
    obtain ⟨j, hj, rfl, hT, hB, hG, hV⟩ := hrel
    have HT : Hid (wr.there g 0 (len * 9)) := hT
    have HB : Hid (Below w.heap.size w wr) := hB
    have HGL : Hid (g < wr.heap.size) := hG
    have HV : Hid (∀ k, k < j → ∃ r c i o, Hc wr ⟨g, k * 9, none⟩ r c i o (hs.getD k voidH) ∧ Hm wr (g + 1) r c i o (hs.getD k voidH) ∧ Ha r c i o) := hV
    have hl2 : (len : Int) ≤ 1048576 := by have := HSM.out; omega
    by_cases hlt : j < len
    · obtain ⟨x, a0, a1, a2, a3, n0, k0, n1, k1, n2, k2, n3, k3, rfl, k1', k2'⟩ := (HR.out.stay hB).at j hlt
      obtain ⟨H, hH⟩ : ∃ H, hs.getD j voidH = H := ⟨_, rfl⟩
      rw [hH] at k1' k2'
      have HI2 : Hid (Hin wr a0 n0 k0 a1 n1 k1 a2 n2 k2 a3 n3 k3 H) := k2'
      have HS2 : Hid (Hs n0 n1 n2 n3) := by
        have e := k2'.lens
        have t := HSS.out j hlt
        rw [hH] at t
        unfold Hsm at t
        rw [← e.1, ← e.2.1, ← e.2.2.1, ← e.2.2.2] at t
        exact t
      have HH : Hid (hs.getD j voidH = H) := hH
      have y0 := k1'.c0
      have y1 := k1'.c1
      have y2 := k1'.c2
      have y3 := k1'.c3
      have y4 := k1'.c4
      have y5 := k1'.c5
      have y6 := k1'.c6
      have y7 := k1'.c7
      have y8 := k1'.c8
      have hI : (j : Int) < (len : Int) := by omega
      have HL : Hid (j < len) := hlt
      clear k1' k2' hlt hB hH hT hG hV
      go_wp2_with fail
      refine (to_hart _ _ _ _ _ _ _ _ _ _ _ _ H _ HI2.out HS2.out).mono ?_
      rintro e w2 ⟨r, c, i, o, rfl, m2, A2, b2⟩
      have M2 : Hid (Hm w2 (g + 1) r c i o H) := m2.mono (by have := HGL.out; omega)
      have HA2 : Hid (Ha r c i o) := A2
      have T2 : Hid (w2.there g 0 (len * 9)) := thereB HT.out HGL.out b2
      have B2 : Hid (Below w.heap.size w w2) := on HB.out b2
      have V2 : Hid (∀ k, k < j → ∃ r c i o, Hc w2 ⟨g, k * 9, none⟩ r c i o (hs.getD k voidH) ∧ Hm w2 (g + 1) r c i o (hs.getD k voidH) ∧ Ha r c i o) := fun k hk => by
        obtain ⟨r, c, i, o, g1, g2, g3⟩ := HV.out k hk
        exact ⟨r, c, i, o, g1.stay b2, g2.keep b2, g3⟩
      have S2 : Hid (wr.heap.size ≤ w2.heap.size) := b2.size
      obtain ⟨xr, lr, rfl, _⟩ := m2.r.shape
      obtain ⟨xc, lc, rfl, _⟩ := m2.c.shape
      obtain ⟨xi, li, rfl, _⟩ := m2.i.shape
      obtain ⟨xo, lo, rfl, _⟩ := m2.o.shape
      generalize hn0 : H.regs.length = m0 at *
      generalize hn1 : H.csr.length = m1 at *
      generalize hn2 : H.inn.length = mi at *
      generalize hn3 : H.out.length = mo at *
      clear m2 A2 b2 y0 y1 y2 y3 y4 y5 y6 y7 y8 hn0 hn1 hn2 hn3
      have T9 : Hid (w2.there g (j * 9) 9) := fun k hk => by
        have := T2.out (j * 9 + k) (by have := HL.out; omega)
        rwa [Nat.zero_add] at this
      have FIN : Hid ((w2.setCells g (j * 9) [.slice xr m0 lr, .int .i64 H.pc, .slice xc m1 lc, .bool H.halted, .bool H.waiting, .bool H.rung, .int .i64 H.done, .slice xi mi li, .slice xo mo lo]).there g 0 (len * 9) ∧ Below w.heap.size w (w2.setCells g (j * 9) [.slice xr m0 lr, .int .i64 H.pc, .slice xc m1 lc, .bool H.halted, .bool H.waiting, .bool H.rung, .int .i64 H.done, .slice xi mi li, .slice xo mo lo]) ∧ g < (w2.setCells g (j * 9) [.slice xr m0 lr, .int .i64 H.pc, .slice xc m1 lc, .bool H.halted, .bool H.waiting, .bool H.rung, .int .i64 H.done, .slice xi mi li, .slice xo mo lo]).heap.size ∧ ∀ k, k < j + 1 → ∃ r c i o, Hc (w2.setCells g (j * 9) [.slice xr m0 lr, .int .i64 H.pc, .slice xc m1 lc, .bool H.halted, .bool H.waiting, .bool H.rung, .int .i64 H.done, .slice xi mi li, .slice xo mo lo]) ⟨g, k * 9, none⟩ r c i o (hs.getD k voidH) ∧ Hm (w2.setCells g (j * 9) [.slice xr m0 lr, .int .i64 H.pc, .slice xc m1 lc, .bool H.halted, .bool H.waiting, .bool H.rung, .int .i64 H.done, .slice xi mi li, .slice xo mo lo]) (g + 1) r c i o (hs.getD k voidH) ∧ Ha r c i o) := by
        have MQ := mqC g [.slice xr m0 lr, .int .i64 H.pc, .slice xc m1 lc, .bool H.halted, .bool H.waiting, .bool H.rung, .int .i64 H.done, .slice xi mi li, .slice xo mo lo] w2 (j * 9)
        refine ⟨World.there_setCells T2.out _ _ _, Mq.under B2.out MQ fun k e => by have := HG.out; omega, Nat.lt_of_lt_of_le (Nat.lt_of_lt_of_le HGL.out S2.out) MQ.size, fun k hk => ?_⟩
        rcases Nat.lt_or_ge k j with h | h
        · obtain ⟨r, c, i, o, g1, g2, g3⟩ := V2.out k h
          exact ⟨r, c, i, o, g1.put rfl (fun _ => .inl (show k * 9 + 9 ≤ j * 9 by omega)), MQ.hm g2 (fun q e f => by have := g2.own q e; have : q = g := f; omega), g3⟩
        · obtain rfl : k = j := by omega
          refine ⟨_, _, _, _, ?_, ?_, HA2.out⟩
          · rw [HH.out]; exact Hc.new T9.out
          · rw [HH.out]; exact MQ.hm M2.out (fun q e f => by have := M2.out.own q e; have : q = g := f; omega)
      obtain ⟨v0, p0⟩ : ∃ v, w2.cell? ⟨g, j * 9, none⟩ = some v := Option.isSome_iff_exists.1 (T9.out 0 (by decide)).1
      have f0 : w2.frozen? ⟨g, j * 9, none⟩ = false := (T9.out 0 (by decide)).2
      obtain ⟨v1, p1⟩ : ∃ v, w2.cell? ⟨g, j * 9 + 1, none⟩ = some v := Option.isSome_iff_exists.1 (T9.out 1 (by decide)).1
      have f1 : w2.frozen? ⟨g, j * 9 + 1, none⟩ = false := (T9.out 1 (by decide)).2
      obtain ⟨v2, p2⟩ : ∃ v, w2.cell? ⟨g, j * 9 + 2, none⟩ = some v := Option.isSome_iff_exists.1 (T9.out 2 (by decide)).1
      have f2 : w2.frozen? ⟨g, j * 9 + 2, none⟩ = false := (T9.out 2 (by decide)).2
      obtain ⟨v3, p3⟩ : ∃ v, w2.cell? ⟨g, j * 9 + 3, none⟩ = some v := Option.isSome_iff_exists.1 (T9.out 3 (by decide)).1
      have f3 : w2.frozen? ⟨g, j * 9 + 3, none⟩ = false := (T9.out 3 (by decide)).2
      obtain ⟨v4, p4⟩ : ∃ v, w2.cell? ⟨g, j * 9 + 4, none⟩ = some v := Option.isSome_iff_exists.1 (T9.out 4 (by decide)).1
      have f4 : w2.frozen? ⟨g, j * 9 + 4, none⟩ = false := (T9.out 4 (by decide)).2
      obtain ⟨v5, p5⟩ : ∃ v, w2.cell? ⟨g, j * 9 + 5, none⟩ = some v := Option.isSome_iff_exists.1 (T9.out 5 (by decide)).1
      have f5 : w2.frozen? ⟨g, j * 9 + 5, none⟩ = false := (T9.out 5 (by decide)).2
      obtain ⟨v6, p6⟩ : ∃ v, w2.cell? ⟨g, j * 9 + 6, none⟩ = some v := Option.isSome_iff_exists.1 (T9.out 6 (by decide)).1
      have f6 : w2.frozen? ⟨g, j * 9 + 6, none⟩ = false := (T9.out 6 (by decide)).2
      obtain ⟨v7, p7⟩ : ∃ v, w2.cell? ⟨g, j * 9 + 7, none⟩ = some v := Option.isSome_iff_exists.1 (T9.out 7 (by decide)).1
      have f7 : w2.frozen? ⟨g, j * 9 + 7, none⟩ = false := (T9.out 7 (by decide)).2
      obtain ⟨v8, p8⟩ : ∃ v, w2.cell? ⟨g, j * 9 + 8, none⟩ = some v := Option.isSome_iff_exists.1 (T9.out 8 (by decide)).1
      have f8 : w2.frozen? ⟨g, j * 9 + 8, none⟩ = false := (T9.out 8 (by decide)).2
      have gl : g < w2.heap.size := Nat.lt_of_lt_of_le HGL.out S2.out
      go_wp2_with fail
      go_roundw
      case rel => exact ⟨j + 1, by have := HL.out; omega, by go_num, FIN.out⟩
      case measure => have := HL.out; simp [intOf]; omega
    · have hJ : ¬ (j : Int) < (len : Int) := by omega
      have HJ : Hid (j = len) := by show _ = _; omega
      clear hlt hT hG
      go_wp2_with fail
      go_ret
      refine ⟨g, rfl, .inr ⟨g, len, by rw [← hlen.out], by have := hlen.out; omega, by have := HSM.out; unfold maxLen; omega, Nat.le_of_eq HG.out, fun k hk => ?_⟩, hB, HT.out, HGL.out⟩
      obtain ⟨r, c, i, o, g1, g2, g3⟩ := hV k (by have := HJ.out; have := hlen.out; omega)
      exact ⟨r, c, i, o, g1, g2.mono (by have := HG.out; omega), g3⟩
end Go.Proofs.YthnaggeilbcioaaGreatDoor
namespace Go.Proofs.YthnaggeilbcioaaGreatDoor
open Go.RowKit
set_option linter.unusedVariables false

set_option maxRecDepth 20000 in
set_option maxHeartbeats 4000000 in
theorem eq_harts (u v : Value) (hs : List Ht) (b b' : Nat) (w : World) (h : Hl w b u hs) (k : Hl w b' v hs) :
    Calls Tryz.prog 32 #[u, v] w fun e w' => e = .returned (.bool true) ∧ Below w.heap.size w w' := by
  obtain ⟨a1, q1, hu, _, l1, g1⟩ := h.shape
  obtain ⟨a2, q2, hv, _, l2, g2⟩ := k.shape
  subst hu hv
  obtain ⟨n, hn⟩ : ∃ n, hs.length = n := ⟨_, rfl⟩
  rw [hn] at h k g1 g2 ⊢
  have HH : Hid (Hl w b (.slice a1 n q1) hs) := h
  have HK : Hid (Hl w b' (.slice a2 n q2) hs) := k
  have HN : Hid (hs.length = n) := hn
  have G1 : Hid (0 < n → ∃ g, a1 = some ⟨g, 0, none⟩) := g1
  have G2 : Hid (0 < n → ∃ g, a2 = some ⟨g, 0, none⟩) := g2
  have hmax : (n : Int) ≤ 9223372036854775807 := by have hc := h.shape; obtain ⟨_, _, _, h1, h2, _⟩ := hc; rw [hn] at h1; unfold maxLen at h2; omega
  clear h k hn g1 g2 l1 l2
  go_enter Tryz.func32, Tryz.ntmps32
  go_wp2_with fail
  go_loopw [5] (fun c wr => ∃ j : Nat, j ≤ n ∧ c = .int .i64 j ∧ Below w.heap.size w wr) (fun c _ => n - (intOf c).toNat)
  case atStart => exact ⟨0, Nat.zero_le _, rfl, Below.refl _ _⟩
  case round =>
    obtain ⟨j, hj, rfl, hB⟩ := hrel
    have HB : Hid (Below w.heap.size w wr) := hB
    by_cases hlt : j < n
    · obtain ⟨x1, e1⟩ := G1.out (by omega)
      obtain ⟨x2, e2⟩ := G2.out (by omega)
      subst e1 e2
      obtain ⟨r, c, i, o, y1, y2, _⟩ := (HH.out.keep hB).at j (by rw [HN.out]; exact hlt)
      obtain ⟨r', c', i', o', z1, z2, _⟩ := (HK.out.keep hB).at j (by rw [HN.out]; exact hlt)
      obtain ⟨H, hH⟩ : ∃ H, hs.getD j voidH = H := ⟨_, rfl⟩
      rw [hH] at y1 y2 z1 z2
      obtain ⟨xr, lr, rfl, _⟩ := y2.r.shape
      obtain ⟨xc, lc, rfl, _⟩ := y2.c.shape
      obtain ⟨xi, li, rfl, _⟩ := y2.i.shape
      obtain ⟨xo, lo, rfl, _⟩ := y2.o.shape
      obtain ⟨zr, qr, rfl, _⟩ := z2.r.shape
      obtain ⟨zc, qc, rfl, _⟩ := z2.c.shape
      obtain ⟨zi, qi, rfl, _⟩ := z2.i.shape
      obtain ⟨zo, qo, rfl, _⟩ := z2.o.shape
      have Y2 : Hid (Hm wr b _ _ _ _ H) := y2
      have Z2 : Hid (Hm wr b' _ _ _ _ H) := z2
      generalize H.regs.length = m0 at *
      generalize H.csr.length = m1 at *
      generalize H.inn.length = mi at *
      generalize H.out.length = mo at *
      have Y1 : Hid (Hc wr ⟨x1, j * 9, none⟩ _ _ _ _ H) := y1
      have Z1 : Hid (Hc wr ⟨x2, j * 9, none⟩ _ _ _ _ H) := z1
      have hI : (j : Int) < (n : Int) := by omega
      have HL : Hid (j < n) := hlt
      clear y1 y2 z1 z2 hB hH hlt
      go_wp2_with fail
      refine wp_region_held (S := fun w' => Below wr.heap.size wr w') (by kernel_rfl) ?_
      change wpAnyH _ _ _ _ _ _ _ _ (World.drew _)
      have SD : Hid (Below wr.heap.size wr wr.drew) := (Below.refl _ _).drew
      generalize wr.drew = x0 at *
      refine wpAnyH_take (i := 0) (v := .slice (some ⟨x1, 0, none⟩) n q1) rfl (by kernel_rfl) (by kernel_rfl) (by kernel_rfl) (fun _ _ _ h => h) (Or.inl ⟨by rfl, fun w' hs => by go_simp⟩) SD.out ?_
      change wpAnyH _ _ _ _ _ _ _ (Act.put _ (some 17) _) _
      simp only [Act.put, List.setIfInBounds_toArray, List.set_cons_zero, List.set_cons_succ]
      refine wpAnyH_take (i := 1) (v := .int .i64 (j : Int)) rfl (by kernel_rfl) (by kernel_rfl) (by kernel_rfl) (fun _ _ _ h => h) (Or.inl ⟨by rfl, fun w' hs => by go_simp⟩) SD.out ?_
      change wpAnyH _ _ _ _ _ _ _ (Act.put _ (some 18) _) _
      simp only [Act.put, List.setIfInBounds_toArray, List.set_cons_zero, List.set_cons_succ]
      refine wpAnyH_take (i := 2) (v := .pointer (some ⟨x1, j * 9, none⟩)) rfl (by kernel_rfl) (by kernel_rfl) (by kernel_rfl) (fun _ _ _ h => h) (Or.inl ⟨by rfl, fun w' hs => by go_simp⟩) SD.out ?_
      change wpAnyH _ _ _ _ _ _ _ (Act.put _ (some 19) _) _
      simp only [Act.put, List.setIfInBounds_toArray, List.set_cons_zero, List.set_cons_succ]
      refine wpAnyH_take (i := 3) (v := .agg #[.slice xr m0 lr, .int .i64 H.pc, .slice xc m1 lc, .bool H.halted, .bool H.waiting, .bool H.rung, .int .i64 H.done, .slice xi mi li, .slice xo mo lo]) rfl (by kernel_rfl) (by kernel_rfl) (by kernel_rfl) (fun _ _ _ h => h) (Or.inl ⟨by rfl, fun w' hs => by have hc := Y1.out.stay hs; have y0 := hc.c0; have y1 := hc.c1; have y2 := hc.c2; have y3 := hc.c3; have y4 := hc.c4; have y5 := hc.c5; have y6 := hc.c6; have y7 := hc.c7; have y8 := hc.c8; go_simp⟩) SD.out ?_
      change wpAnyH _ _ _ _ _ _ _ (Act.put _ (some 20) _) _
      simp only [Act.put, List.setIfInBounds_toArray, List.set_cons_zero, List.set_cons_succ]
      refine wpAnyH_take (i := 4) (v := .slice (some ⟨x2, 0, none⟩) n q2) rfl (by kernel_rfl) (by kernel_rfl) (by kernel_rfl) (fun _ _ _ h => h) (Or.inl ⟨by rfl, fun w' hs => by go_simp⟩) SD.out ?_
      change wpAnyH _ _ _ _ _ _ _ (Act.put _ (some 21) _) _
      simp only [Act.put, List.setIfInBounds_toArray, List.set_cons_zero, List.set_cons_succ]
      refine wpAnyH_take (i := 5) (v := .int .i64 (j : Int)) rfl (by kernel_rfl) (by kernel_rfl) (by kernel_rfl) (fun _ _ _ h => h) (Or.inl ⟨by rfl, fun w' hs => by go_simp⟩) SD.out ?_
      change wpAnyH _ _ _ _ _ _ _ (Act.put _ (some 22) _) _
      simp only [Act.put, List.setIfInBounds_toArray, List.set_cons_zero, List.set_cons_succ]
      refine wpAnyH_take (i := 6) (v := .pointer (some ⟨x2, j * 9, none⟩)) rfl (by kernel_rfl) (by kernel_rfl) (by kernel_rfl) (fun _ _ _ h => h) (Or.inl ⟨by rfl, fun w' hs => by go_simp⟩) SD.out ?_
      change wpAnyH _ _ _ _ _ _ _ (Act.put _ (some 23) _) _
      simp only [Act.put, List.setIfInBounds_toArray, List.set_cons_zero, List.set_cons_succ]
      refine wpAnyH_take (i := 7) (v := .agg #[.slice zr m0 qr, .int .i64 H.pc, .slice zc m1 qc, .bool H.halted, .bool H.waiting, .bool H.rung, .int .i64 H.done, .slice zi mi qi, .slice zo mo qo]) rfl (by kernel_rfl) (by kernel_rfl) (by kernel_rfl) (fun _ _ _ h => h) (Or.inl ⟨by rfl, fun w' hs => by have hc := Z1.out.stay hs; have y0 := hc.c0; have y1 := hc.c1; have y2 := hc.c2; have y3 := hc.c3; have y4 := hc.c4; have y5 := hc.c5; have y6 := hc.c6; have y7 := hc.c7; have y8 := hc.c8; go_simp⟩) SD.out ?_
      change wpAnyH _ _ _ _ _ _ _ (Act.put _ (some 24) _) _
      simp only [Act.put, List.setIfInBounds_toArray, List.set_cons_zero, List.set_cons_succ]
      refine wpAnyH_ready (rs := [8]) (by kernel_rfl) (by simp) ?_
      refine AllReadyH.cons rfl (fun K hK => ?_) AllReadyH.nil
      rw [if_pos (by rfl)]
      go_simp
      refine (eq_hart _ _ _ _ _ _ _ _ H b b' _ (Y2.out.keep SD.out) (Z2.out.keep SD.out)).mono ?_
      rintro e w2 ⟨rfl, b2⟩
      have S2 : Hid (Below wr.heap.size wr w2) := on SD.out b2
      clear b2
      refine hK.out _ _ S2.out (fun _ => ?_)
      clear hK K
      refine wpAnyH_take (i := 9) (v := .bool false) rfl (by kernel_rfl) (by kernel_rfl) (by kernel_rfl) (fun _ _ _ h => h) (Or.inl ⟨by rfl, fun w' hs => by go_simp⟩) S2.out ?_
      change wpAnyH _ _ _ _ _ _ _ (Act.put _ (some 26) _) _
      simp only [Act.put, List.setIfInBounds_toArray, List.set_cons_zero, List.set_cons_succ]
      refine wpAnyH_done (by kernel_rfl) ?_ _
      have B2 : Hid (Below w.heap.size w w2) := on HB.out S2.out
      clear SD S2 Y1 Y2 Z1 Z2
      go_wp2_with fail
      go_roundw
      case rel => exact ⟨j + 1, by have := HL.out; omega, by go_num, B2.out⟩
      case measure => have := HL.out; simp [intOf]; omega
    · have hJ : ¬ (j : Int) < (n : Int) := by omega
      clear hlt
      go_wp2_with fail
      go_ret
      exact ⟨rfl, hB⟩
end Go.Proofs.YthnaggeilbcioaaGreatDoor
