/- Texts of this seat, joined. -/
import Derived.Test.YtggejbphdadckaaGreatDoorQ15
import Derived.Test.YtggejbphdadckaaGreatDoorQ19
namespace Go.Proofs.YtggejbphdadckaaGreatDoor
open Go.RowKit
set_option linter.unusedVariables false
def Vc (w : World) (m : Nat) (cs : Array Value) : Prop := ∃ (C : Array Value) (t : TypeId), Vb w m C t ∧ ∀ (j : Nat) (x : Value), cs[j]? = some x → C[j]? = some x
theorem Vc.cell {w : World} {m : Nat} {cs : Array Value} (h : Vc w m cs) (j : Nat) {x : Value} (hx : cs[j]? = some x) : w.cell? ⟨m, j, none⟩ = some x := by
  obtain ⟨C, t, hv, hc⟩ := h
  exact hv.cell j (hc j x hx)
theorem Vc.keep {w w' : World} {m : Nat} {cs : Array Value} (h : Vc w m cs) (b : Below w.heap.size w w') : Vc w' m cs := by
  obtain ⟨C, t, hv, hc⟩ := h
  exact ⟨C, t, hv.keep b, hc⟩
theorem Vc.lt {w : World} {m : Nat} {cs : Array Value} (h : Vc w m cs) : m < w.heap.size := by
  obtain ⟨C, t, hv, hc⟩ := h
  exact hv.lt
theorem Vc.mq {S : Nat → Prop} {w w' : World} {m : Nat} {cs : Array Value} (h : Vc w m cs) (q : Mq S w w') (hn : ¬ S m) : Vc w' m cs := by
  obtain ⟨C, t, hv, hc⟩ := h
  exact ⟨C, t, q.vb hv hn, hc⟩
theorem Vb.vc {w : World} {m : Nat} {cs : Array Value} {t : TypeId} (h : Vb w m cs t) : Vc w m cs := ⟨cs, t, h, fun _ _ e => e⟩
def Vd (w : World) (m d : Nat) (cs : Array Value) : Prop := ∃ (C : Array Value) (t : TypeId), Vb w m C t ∧ ∀ (j : Nat) (x : Value), cs[j]? = some x → C[d + j]? = some x
theorem Vd.cell {w : World} {m d : Nat} {cs : Array Value} (h : Vd w m d cs) (j : Nat) {x : Value} (hx : cs[j]? = some x) : w.cell? ⟨m, d + j, none⟩ = some x := by
  obtain ⟨C, t, hv, hc⟩ := h
  exact hv.cell (d + j) (hc j x hx)
theorem Vd.keep {w w' : World} {m d : Nat} {cs : Array Value} (h : Vd w m d cs) (b : Below w.heap.size w w') : Vd w' m d cs := by
  obtain ⟨C, t, hv, hc⟩ := h
  exact ⟨C, t, hv.keep b, hc⟩
theorem Vd.lt {w : World} {m d : Nat} {cs : Array Value} (h : Vd w m d cs) : m < w.heap.size := by
  obtain ⟨C, t, hv, hc⟩ := h
  exact hv.lt
theorem Vd.mq {S : Nat → Prop} {w w' : World} {m d : Nat} {cs : Array Value} (h : Vd w m d cs) (q : Mq S w w') (hn : ¬ S m) : Vd w' m d cs := by
  obtain ⟨C, t, hv, hc⟩ := h
  exact ⟨C, t, q.vb hv hn, hc⟩
theorem Vc.vd {w : World} {m : Nat} {cs : Array Value} (h : Vc w m cs) : Vd w m 0 cs := by
  obtain ⟨C, t, hv, hc⟩ := h
  exact ⟨C, t, hv, fun j x e => by rw [Nat.zero_add]; exact hc j x e⟩
theorem mda_regs {w : World} {m d : Nat} {H : Ht} {i o : Value} (h : Vd w m d (mca H i o)) (hl : H.regs.length = 16) : Rn w (some ⟨m, d, none⟩) 16 16 H.regs := by
  refine .inr ⟨_, rfl, Nat.le_refl _, by decide, hl, fun j hj => ?_⟩
  have e : j = 0 ∨ j = 1 ∨ j = 2 ∨ j = 3 ∨ j = 4 ∨ j = 5 ∨ j = 6 ∨ j = 7 ∨ j = 8 ∨ j = 9 ∨ j = 10 ∨ j = 11 ∨ j = 12 ∨ j = 13 ∨ j = 14 ∨ j = 15 := by omega
  rw [Addr.add_mid]
  rcases e with rfl | rfl | rfl | rfl | rfl | rfl | rfl | rfl | rfl | rfl | rfl | rfl | rfl | rfl | rfl | rfl
  · exact h.cell 0 rfl
  · exact h.cell 1 rfl
  · exact h.cell 2 rfl
  · exact h.cell 3 rfl
  · exact h.cell 4 rfl
  · exact h.cell 5 rfl
  · exact h.cell 6 rfl
  · exact h.cell 7 rfl
  · exact h.cell 8 rfl
  · exact h.cell 9 rfl
  · exact h.cell 10 rfl
  · exact h.cell 11 rfl
  · exact h.cell 12 rfl
  · exact h.cell 13 rfl
  · exact h.cell 14 rfl
  · exact h.cell 15 rfl
theorem mda_csr {w : World} {m d : Nat} {H : Ht} {i o : Value} (h : Vd w m d (mca H i o)) (hl : H.csr.length = 11) : Rn w (some ⟨m, d + 17, none⟩) 11 11 H.csr := by
  refine .inr ⟨_, rfl, Nat.le_refl _, by decide, hl, fun j hj => ?_⟩
  have e : j = 0 ∨ j = 1 ∨ j = 2 ∨ j = 3 ∨ j = 4 ∨ j = 5 ∨ j = 6 ∨ j = 7 ∨ j = 8 ∨ j = 9 ∨ j = 10 := by omega
  rw [Addr.add_mid]
  rcases e with rfl | rfl | rfl | rfl | rfl | rfl | rfl | rfl | rfl | rfl | rfl
  · exact h.cell 17 rfl
  · exact h.cell 18 rfl
  · exact h.cell 19 rfl
  · exact h.cell 20 rfl
  · exact h.cell 21 rfl
  · exact h.cell 22 rfl
  · exact h.cell 23 rfl
  · exact h.cell 24 rfl
  · exact h.cell 25 rfl
  · exact h.cell 26 rfl
  · exact h.cell 27 rfl
def Sj (W : World) (q : Nat) (w' : World) : Prop := Mq (fun k => k = q) W w' ∧ w'.there q 0 9
theorem Sj.step {W w w' : World} {q : Nat} (h : Sj W q w) (hq : q < W.heap.size) (b : Below w.heap.size w w') : Sj W q w' :=
  ⟨h.1.trans (Mq.of (below_grown b none) fun k e => by cases e), there_below h.2 (Nat.lt_of_lt_of_le hq h.1.size) b⟩
theorem Sj.put {W w : World} {q : Nat} (h : Sj W q w) (j : Nat) (u : Value) : Sj W q (w.setCell ⟨q, j, none⟩ u) := ⟨h.1.set _ _ rfl, World.there_setCells h.2 q j [u]⟩
theorem Sj.at {W w : World} {q : Nat} (h : Sj W q w) (j : Nat) (hj : j < 9) : (∃ v, w.cell? ⟨q, j, none⟩ = some v) ∧ w.frozen? ⟨q, j, none⟩ = false := by
  obtain ⟨h1, h2⟩ := h.2 j hj
  rw [Nat.zero_add] at h1 h2
  exact ⟨Option.isSome_iff_exists.1 h1, h2⟩
theorem Sj.set {W w : World} {q : Nat} (h : Sj W q w) (vs : List Value) : Sj W q (w.setCells q 0 vs) := ⟨h.1.trans (mq_cells q vs w 0), World.there_setCells h.2 _ _ _⟩
set_option maxRecDepth 20000 in
set_option maxHeartbeats 8000000 in
theorem i_hartD (m d : Nat) (i o : Value) (H : Ht) (w : World) (hv : Vd w m d (mca H i o)) (hi : Rv w i H.inn) (ho : Rv w o H.out) (hr : H.regs.length = 16) (hc : H.csr.length = 11) (h2 : H.inn.length ≤ 1000) (h3 : H.out.length ≤ 1000) :
    Calls Tryz.prog 62 #[.pointer (some ⟨m, d, none⟩)] w fun e w' => ∃ r c i' o', e = .returned (.agg #[r, .int .i64 H.pc, c, .bool H.halted, .bool H.waiting, .bool H.rung, .int .i64 H.done, i', o']) ∧ Hm w' w.heap.size r c i' o' H ∧ Ha r c i' o' ∧ Below w.heap.size w w' := by
  obtain ⟨a2, k2, rfl, hi⟩ := hi
  obtain ⟨a3, k3, rfl, ho⟩ := ho
  have LN : Hid (H.regs.length = 16 ∧ H.csr.length = 11 ∧ H.inn.length ≤ 1000 ∧ H.out.length ≤ 1000) := ⟨hr, hc, h2, h3⟩
  have HI : Hid (Rn w a2 _ k2 H.inn) := hi
  have HO : Hid (Rn w a3 _ k3 H.out) := ho
  have HV : Hid (Vd w m d _) := hv
  clear hr hc h2 h3 hi ho hv
  generalize H.inn.length = n2 at *
  generalize H.out.length = n3 at *
  generalize hW : w.alloc (.cells #[.slice none 0 0, .int .i64 0, .slice none 0 0, .bool false, .bool false, .bool false, .int .i64 0, .slice none 0 0, .slice none 0 0] 60) = W
  have B0 : Hid (Below w.heap.size w W) := by show Below _ _ _; rw [← hW]; exact al (Below.refl _ _) _
  obtain ⟨q, hq⟩ : ∃ q, w.heap.size = q := ⟨_, rfl⟩
  have HQ : Hid (w.heap.size = q) := hq
  have VR : Hid (Vb W q #[.slice none 0 0, .int .i64 0, .slice none 0 0, .bool false, .bool false, .bool false, .int .i64 0, .slice none 0 0, .slice none 0 0] 60) := by
    show Vb _ _ _ _; rw [← hW, ← hq]; exact Vb.new _ _ _
  have LT : Hid (q < W.heap.size) := VR.out.lt
  have ML : Hid (m < q) := by show _ < _; rw [← hq]; exact HV.out.lt
  have S0 : Hid (Sj W q W) := ⟨Mq.refl _ _, VR.out.there 9 (by decide)⟩
  have VS : Hid (∀ w', Sj W q w' → Vd w' m d (mca H (.slice a2 n2 k2) (.slice a3 n3 k3))) := fun w' hs => (HV.out.keep B0.out).mq hs.1 (by have := ML.out; omega)
  have IS : Hid (∀ w', Sj W q w' → Rn w' a2 n2 k2 H.inn) := fun w' hs => HI.out.mq ((Mq.of (below_grown B0.out none) fun k e => by cases e).trans hs.1) fun x e hl f => by have := HQ.out; omega
  have OS : Hid (∀ w', Sj W q w' → Rn w' a3 n3 k3 H.out) := fun w' hs => HO.out.mq ((Mq.of (below_grown B0.out none) fun k e => by cases e).trans hs.1) fun x e hl f => by have := HQ.out; omega
  have q16 : ∀ w', Sj W q w' → w'.cell? ⟨m, d + 16, none⟩ = some (.int .i64 H.pc) := fun w' hs => (VS.out w' hs).cell 16 rfl
  have q28 : ∀ w', Sj W q w' → w'.cell? ⟨m, d + 28, none⟩ = some (.bool H.halted) := fun w' hs => (VS.out w' hs).cell 28 rfl
  have q29 : ∀ w', Sj W q w' → w'.cell? ⟨m, d + 29, none⟩ = some (.bool H.waiting) := fun w' hs => (VS.out w' hs).cell 29 rfl
  have q30 : ∀ w', Sj W q w' → w'.cell? ⟨m, d + 30, none⟩ = some (.bool H.rung) := fun w' hs => (VS.out w' hs).cell 30 rfl
  have q31 : ∀ w', Sj W q w' → w'.cell? ⟨m, d + 31, none⟩ = some (.int .i64 H.done) := fun w' hs => (VS.out w' hs).cell 31 rfl
  have q32 : ∀ w', Sj W q w' → w'.cell? ⟨m, d + 32, none⟩ = some (.slice a2 n2 k2) := fun w' hs => (VS.out w' hs).cell 32 rfl
  have q33 : ∀ w', Sj W q w' → w'.cell? ⟨m, d + 33, none⟩ = some (.slice a3 n3 k3) := fun w' hs => (VS.out w' hs).cell 33 rfl
  go_enter Tryz.func62, Tryz.ntmps62
  go_wp2_with fail
  clear hW hq
  have SD : Hid (Sj W q W.drew) := S0.out.step LT.out (Below.refl _ _).drew
  refine wp_region_held (S := fun w' => Sj W q w') (by kernel_rfl) ?_
  change wpAnyH _ _ _ _ _ _ _ _ (World.drew _)
  refine wpTk (i := 0) (v := .pointer (some ⟨m, d, none⟩)) rfl (Or.inl ⟨by rfl, fun w' hs => by go_simp⟩) SD.out ?_
  change wpAnyH _ _ _ _ _ _ _ (Act.put _ (some 3) _) _
  simp only [Act.put, zT, zZ, zS]
  refine wpTk (i := 1) (v := .pointer (some ⟨m, d, none⟩)) rfl (Or.inl ⟨by rfl, fun w' hs => by go_simp⟩) SD.out ?_
  change wpAnyH _ _ _ _ _ _ _ (Act.put _ (some 4) _) _
  simp only [Act.put, zT, zZ, zS]
  refine wpTk (i := 2) (v := .pointer (some ⟨m, d, none⟩)) rfl (Or.inl ⟨by rfl, fun w' hs => by go_simp⟩) SD.out ?_
  change wpAnyH _ _ _ _ _ _ _ (Act.put _ (some 5) _) _
  simp only [Act.put, zT, zZ, zS]
  refine wpTk (i := 3) (v := .pointer (some ⟨m, d, none⟩)) rfl (Or.inl ⟨by rfl, fun w' hs => by go_simp⟩) SD.out ?_
  change wpAnyH _ _ _ _ _ _ _ (Act.put _ (some 6) _) _
  simp only [Act.put, zT, zZ, zS]
  refine wpTk (i := 4) (v := .slice (some ⟨m, d, none⟩) 16 16) rfl (Or.inl ⟨by rfl, fun w' hs => by go_simp⟩) SD.out ?_
  change wpAnyH _ _ _ _ _ _ _ (Act.put _ (some 7) _) _
  simp only [Act.put, zT, zZ, zS]
  refine wpTk (i := 6) (v := .pointer (some ⟨m, d, none⟩)) rfl (Or.inl ⟨by rfl, fun w' hs => by go_simp⟩) SD.out ?_
  change wpAnyH _ _ _ _ _ _ _ (Act.put _ (some 9) _) _
  simp only [Act.put, zT, zZ, zS]
  refine wpTk (i := 7) (v := .pointer (some ⟨m, d, none⟩)) rfl (Or.inl ⟨by rfl, fun w' hs => by go_simp⟩) SD.out ?_
  change wpAnyH _ _ _ _ _ _ _ (Act.put _ (some 10) _) _
  simp only [Act.put, zT, zZ, zS]
  refine wpTk (i := 8) (v := .pointer (some ⟨m, d, none⟩)) rfl (Or.inl ⟨by rfl, fun w' hs => by go_simp⟩) SD.out ?_
  change wpAnyH _ _ _ _ _ _ _ (Act.put _ (some 11) _) _
  simp only [Act.put, zT, zZ, zS]
  refine wpTk (i := 9) (v := .pointer (some ⟨m, d + 16, none⟩)) rfl (Or.inl ⟨by rfl, fun w' hs => by go_simp⟩) SD.out ?_
  change wpAnyH _ _ _ _ _ _ _ (Act.put _ (some 12) _) _
  simp only [Act.put, zT, zZ, zS]
  refine wpTk (i := 10) (v := .int .i64 H.pc) rfl (Or.inl ⟨by rfl, fun w' hs => by go_simp⟩) SD.out ?_
  change wpAnyH _ _ _ _ _ _ _ (Act.put _ (some 13) _) _
  simp only [Act.put, zT, zZ, zS]
  refine wpTk (i := 11) (v := .pointer (some ⟨m, d, none⟩)) rfl (Or.inl ⟨by rfl, fun w' hs => by go_simp⟩) SD.out ?_
  change wpAnyH _ _ _ _ _ _ _ (Act.put _ (some 14) _) _
  simp only [Act.put, zT, zZ, zS]
  refine wpTk (i := 12) (v := .pointer (some ⟨m, d, none⟩)) rfl (Or.inl ⟨by rfl, fun w' hs => by go_simp⟩) SD.out ?_
  change wpAnyH _ _ _ _ _ _ _ (Act.put _ (some 15) _) _
  simp only [Act.put, zT, zZ, zS]
  refine wpTk (i := 13) (v := .pointer (some ⟨m, d, none⟩)) rfl (Or.inl ⟨by rfl, fun w' hs => by go_simp⟩) SD.out ?_
  change wpAnyH _ _ _ _ _ _ _ (Act.put _ (some 16) _) _
  simp only [Act.put, zT, zZ, zS]
  refine wpTk (i := 14) (v := .pointer (some ⟨m, d + 17, none⟩)) rfl (Or.inl ⟨by rfl, fun w' hs => by go_simp⟩) SD.out ?_
  change wpAnyH _ _ _ _ _ _ _ (Act.put _ (some 17) _) _
  simp only [Act.put, zT, zZ, zS]
  refine wpTk (i := 15) (v := .slice (some ⟨m, d + 17, none⟩) 11 11) rfl (Or.inl ⟨by rfl, fun w' hs => by go_simp⟩) SD.out ?_
  change wpAnyH _ _ _ _ _ _ _ (Act.put _ (some 18) _) _
  simp only [Act.put, zT, zZ, zS]
  refine wpTk (i := 17) (v := .pointer (some ⟨m, d, none⟩)) rfl (Or.inl ⟨by rfl, fun w' hs => by go_simp⟩) SD.out ?_
  change wpAnyH _ _ _ _ _ _ _ (Act.put _ (some 20) _) _
  simp only [Act.put, zT, zZ, zS]
  refine wpTk (i := 18) (v := .pointer (some ⟨m, d, none⟩)) rfl (Or.inl ⟨by rfl, fun w' hs => by go_simp⟩) SD.out ?_
  change wpAnyH _ _ _ _ _ _ _ (Act.put _ (some 21) _) _
  simp only [Act.put, zT, zZ, zS]
  refine wpTk (i := 19) (v := .pointer (some ⟨m, d + 28, none⟩)) rfl (Or.inl ⟨by rfl, fun w' hs => by go_simp⟩) SD.out ?_
  change wpAnyH _ _ _ _ _ _ _ (Act.put _ (some 22) _) _
  simp only [Act.put, zT, zZ, zS]
  refine wpTk (i := 20) (v := .bool H.halted) rfl (Or.inl ⟨by rfl, fun w' hs => by go_simp⟩) SD.out ?_
  change wpAnyH _ _ _ _ _ _ _ (Act.put _ (some 23) _) _
  simp only [Act.put, zT, zZ, zS]
  refine wpTk (i := 21) (v := .pointer (some ⟨m, d, none⟩)) rfl (Or.inl ⟨by rfl, fun w' hs => by go_simp⟩) SD.out ?_
  change wpAnyH _ _ _ _ _ _ _ (Act.put _ (some 24) _) _
  simp only [Act.put, zT, zZ, zS]
  refine wpTk (i := 22) (v := .pointer (some ⟨m, d, none⟩)) rfl (Or.inl ⟨by rfl, fun w' hs => by go_simp⟩) SD.out ?_
  change wpAnyH _ _ _ _ _ _ _ (Act.put _ (some 25) _) _
  simp only [Act.put, zT, zZ, zS]
  refine wpTk (i := 23) (v := .pointer (some ⟨m, d + 29, none⟩)) rfl (Or.inl ⟨by rfl, fun w' hs => by go_simp⟩) SD.out ?_
  change wpAnyH _ _ _ _ _ _ _ (Act.put _ (some 26) _) _
  simp only [Act.put, zT, zZ, zS]
  refine wpTk (i := 24) (v := .bool H.waiting) rfl (Or.inl ⟨by rfl, fun w' hs => by go_simp⟩) SD.out ?_
  change wpAnyH _ _ _ _ _ _ _ (Act.put _ (some 27) _) _
  simp only [Act.put, zT, zZ, zS]
  refine wpTk (i := 25) (v := .pointer (some ⟨m, d, none⟩)) rfl (Or.inl ⟨by rfl, fun w' hs => by go_simp⟩) SD.out ?_
  change wpAnyH _ _ _ _ _ _ _ (Act.put _ (some 28) _) _
  simp only [Act.put, zT, zZ, zS]
  refine wpTk (i := 26) (v := .pointer (some ⟨m, d, none⟩)) rfl (Or.inl ⟨by rfl, fun w' hs => by go_simp⟩) SD.out ?_
  change wpAnyH _ _ _ _ _ _ _ (Act.put _ (some 29) _) _
  simp only [Act.put, zT, zZ, zS]
  refine wpTk (i := 27) (v := .pointer (some ⟨m, d + 30, none⟩)) rfl (Or.inl ⟨by rfl, fun w' hs => by go_simp⟩) SD.out ?_
  change wpAnyH _ _ _ _ _ _ _ (Act.put _ (some 30) _) _
  simp only [Act.put, zT, zZ, zS]
  refine wpTk (i := 28) (v := .bool H.rung) rfl (Or.inl ⟨by rfl, fun w' hs => by go_simp⟩) SD.out ?_
  change wpAnyH _ _ _ _ _ _ _ (Act.put _ (some 31) _) _
  simp only [Act.put, zT, zZ, zS]
  refine wpTk (i := 29) (v := .pointer (some ⟨m, d, none⟩)) rfl (Or.inl ⟨by rfl, fun w' hs => by go_simp⟩) SD.out ?_
  change wpAnyH _ _ _ _ _ _ _ (Act.put _ (some 32) _) _
  simp only [Act.put, zT, zZ, zS]
  refine wpTk (i := 30) (v := .pointer (some ⟨m, d, none⟩)) rfl (Or.inl ⟨by rfl, fun w' hs => by go_simp⟩) SD.out ?_
  change wpAnyH _ _ _ _ _ _ _ (Act.put _ (some 33) _) _
  simp only [Act.put, zT, zZ, zS]
  refine wpTk (i := 31) (v := .pointer (some ⟨m, d + 31, none⟩)) rfl (Or.inl ⟨by rfl, fun w' hs => by go_simp⟩) SD.out ?_
  change wpAnyH _ _ _ _ _ _ _ (Act.put _ (some 34) _) _
  simp only [Act.put, zT, zZ, zS]
  refine wpTk (i := 32) (v := .int .i64 H.done) rfl (Or.inl ⟨by rfl, fun w' hs => by go_simp⟩) SD.out ?_
  change wpAnyH _ _ _ _ _ _ _ (Act.put _ (some 35) _) _
  simp only [Act.put, zT, zZ, zS]
  refine wpTk (i := 33) (v := .pointer (some ⟨m, d, none⟩)) rfl (Or.inl ⟨by rfl, fun w' hs => by go_simp⟩) SD.out ?_
  change wpAnyH _ _ _ _ _ _ _ (Act.put _ (some 36) _) _
  simp only [Act.put, zT, zZ, zS]
  refine wpTk (i := 34) (v := .pointer (some ⟨m, d, none⟩)) rfl (Or.inl ⟨by rfl, fun w' hs => by go_simp⟩) SD.out ?_
  change wpAnyH _ _ _ _ _ _ _ (Act.put _ (some 37) _) _
  simp only [Act.put, zT, zZ, zS]
  refine wpTk (i := 35) (v := .pointer (some ⟨m, d + 32, none⟩)) rfl (Or.inl ⟨by rfl, fun w' hs => by go_simp⟩) SD.out ?_
  change wpAnyH _ _ _ _ _ _ _ (Act.put _ (some 38) _) _
  simp only [Act.put, zT, zZ, zS]
  refine wpTk (i := 36) (v := .slice a2 n2 k2) rfl (Or.inl ⟨by rfl, fun w' hs => by go_simp⟩) SD.out ?_
  change wpAnyH _ _ _ _ _ _ _ (Act.put _ (some 39) _) _
  simp only [Act.put, zT, zZ, zS]
  refine wpTk (i := 38) (v := .pointer (some ⟨m, d, none⟩)) rfl (Or.inl ⟨by rfl, fun w' hs => by go_simp⟩) SD.out ?_
  change wpAnyH _ _ _ _ _ _ _ (Act.put _ (some 41) _) _
  simp only [Act.put, zT, zZ, zS]
  refine wpTk (i := 39) (v := .pointer (some ⟨m, d, none⟩)) rfl (Or.inl ⟨by rfl, fun w' hs => by go_simp⟩) SD.out ?_
  change wpAnyH _ _ _ _ _ _ _ (Act.put _ (some 42) _) _
  simp only [Act.put, zT, zZ, zS]
  refine wpTk (i := 40) (v := .pointer (some ⟨m, d + 33, none⟩)) rfl (Or.inl ⟨by rfl, fun w' hs => by go_simp⟩) SD.out ?_
  change wpAnyH _ _ _ _ _ _ _ (Act.put _ (some 43) _) _
  simp only [Act.put, zT, zZ, zS]
  refine wpTk (i := 41) (v := .slice a3 n3 k3) rfl (Or.inl ⟨by rfl, fun w' hs => by go_simp⟩) SD.out ?_
  change wpAnyH _ _ _ _ _ _ _ (Act.put _ (some 44) _) _
  simp only [Act.put, zT, zZ, zS]
  refine zR 5 rfl fun K hK => ?_
  rw [if_pos (by rfl)]
  go_simp
  refine (i_clone (some ⟨m, d, none⟩) 16 16 H.regs _ (mda_regs (VS.out _ SD.out) LN.out.1) (by decide)).mono ?_
  rintro e w1 ⟨v1, rfl, m1, b1⟩
  obtain ⟨xa1, xk1, rfl, _⟩ := m1.shape
  have S1 : Hid (Sj W q w1) := SD.out.step LT.out b1
  have N1 : Hid (Nums w1 W.drew.heap.size (.slice xa1 H.regs.length xk1) H.regs) := m1
  have G1 : Hid (W.drew.heap.size ≤ w1.heap.size) := b1.size
  clear m1 b1
  refine hK.out _ _ S1.out (fun _ => ?_)
  clear hK K
  refine zR 16 rfl fun K hK => ?_
  rw [if_pos (by rfl)]
  go_simp
  refine (i_clone (some ⟨m, d + 17, none⟩) 11 11 H.csr _ (mda_csr (VS.out _ S1.out) LN.out.2.1) (by decide)).mono ?_
  rintro e w2 ⟨v2, rfl, m1, b1⟩
  obtain ⟨xa2, xk2, rfl, _⟩ := m1.shape
  have S2 : Hid (Sj W q w2) := S1.out.step LT.out b1
  have N2 : Hid (Nums w2 w1.heap.size (.slice xa2 H.csr.length xk2) H.csr) := m1
  have G2 : Hid (w1.heap.size ≤ w2.heap.size) := b1.size
  have H2 : Hid (Ho W.heap.size w1 w2) := Ho.of b1
  clear m1 b1
  refine hK.out _ _ S2.out (fun _ => ?_)
  clear hK K
  refine zR 37 rfl fun K hK => ?_
  rw [if_pos (by rfl)]
  go_simp
  refine (i_clone a2 n2 k2 H.inn _ (IS.out _ S2.out) (by have := LN.out.2.2.1; omega)).mono ?_
  rintro e w3 ⟨v3, rfl, m1, b1⟩
  obtain ⟨xa3, xk3, rfl, _⟩ := m1.shape
  have S3 : Hid (Sj W q w3) := S2.out.step LT.out b1
  have N3 : Hid (Nums w3 w2.heap.size (.slice xa3 H.inn.length xk3) H.inn) := m1
  have G3 : Hid (w2.heap.size ≤ w3.heap.size) := b1.size
  have H3 : Hid (Ho W.heap.size w2 w3) := Ho.of b1
  clear m1 b1
  refine hK.out _ _ S3.out (fun _ => ?_)
  clear hK K
  refine zR 42 rfl fun K hK => ?_
  rw [if_pos (by rfl)]
  go_simp
  refine (i_clone a3 n3 k3 H.out _ (OS.out _ S3.out) (by have := LN.out.2.2.2; omega)).mono ?_
  rintro e w4 ⟨v4, rfl, m1, b1⟩
  obtain ⟨xa4, xk4, rfl, _⟩ := m1.shape
  have S4 : Hid (Sj W q w4) := S3.out.step LT.out b1
  have N4 : Hid (Nums w4 w3.heap.size (.slice xa4 H.out.length xk4) H.out) := m1
  have G4 : Hid (w3.heap.size ≤ w4.heap.size) := b1.size
  have H4 : Hid (Ho W.heap.size w3 w4) := Ho.of b1
  clear m1 b1
  refine hK.out _ _ S4.out (fun _ => ?_)
  clear hK K
  refine wpTk (i := 43) (v := .agg #[.slice xa1 H.regs.length xk1, .int .i64 H.pc, .slice xa2 H.csr.length xk2, .bool H.halted, .bool H.waiting, .bool H.rung, .int .i64 H.done, .slice xa3 H.inn.length xk3, .slice xa4 H.out.length xk4]) rfl (Or.inl ⟨by rfl, fun w' hs => by go_simp⟩) S4.out ?_
  change wpAnyH _ _ _ _ _ _ _ (Act.put _ (some 46) _) _
  simp only [Act.put, zT, zZ, zS]
  refine zR 44 rfl fun K hK => ?_
  rw [if_pos (by rfl)]
  refine wp_store_mid 60 (.tmp 2) (.tmp 46) rfl q 0 #[.slice xa1 H.regs.length xk1, .int .i64 H.pc, .slice xa2 H.csr.length xk2, .bool H.halted, .bool H.waiting, .bool H.rung, .int .i64 H.done, .slice xa3 H.inn.length xk3, .slice xa4 H.out.length xk4] rfl rfl S4.out.2 (by kernel_rfl) (by simp [Value.oneCell']) ?_
  change K (Act.put _ none undef) (World.setCells w4 q 0 [.slice xa1 H.regs.length xk1, .int .i64 H.pc, .slice xa2 H.csr.length xk2, .bool H.halted, .bool H.waiting, .bool H.rung, .int .i64 H.done, .slice xa3 H.inn.length xk3, .slice xa4 H.out.length xk4])
  simp only [Act.put]
  have S5 : Hid (Sj W q (w4.setCells q 0 [.slice xa1 H.regs.length xk1, .int .i64 H.pc, .slice xa2 H.csr.length xk2, .bool H.halted, .bool H.waiting, .bool H.rung, .int .i64 H.done, .slice xa3 H.inn.length xk3, .slice xa4 H.out.length xk4])) := S4.out.set _
  have R5 : Hid ((w4.setCells q 0 [.slice xa1 H.regs.length xk1, .int .i64 H.pc, .slice xa2 H.csr.length xk2, .bool H.halted, .bool H.waiting, .bool H.rung, .int .i64 H.done, .slice xa3 H.inn.length xk3, .slice xa4 H.out.length xk4]).rangeAt q 0 [.slice xa1 H.regs.length xk1, .int .i64 H.pc, .slice xa2 H.csr.length xk2, .bool H.halted, .bool H.waiting, .bool H.rung, .int .i64 H.done, .slice xa3 H.inn.length xk3, .slice xa4 H.out.length xk4]) := World.rangeAt_setCells_same _ _ _ _ S4.out.2
  have H5 : Hid (Ho W.heap.size w4 (w4.setCells q 0 [.slice xa1 H.regs.length xk1, .int .i64 H.pc, .slice xa2 H.csr.length xk2, .bool H.halted, .bool H.waiting, .bool H.rung, .int .i64 H.done, .slice xa3 H.inn.length xk3, .slice xa4 H.out.length xk4])) := (mq_cells q _ w4 0).ho fun k e => by have := LT.out; omega
  generalize w4.setCells q 0 [.slice xa1 H.regs.length xk1, .int .i64 H.pc, .slice xa2 H.csr.length xk2, .bool H.halted, .bool H.waiting, .bool H.rung, .int .i64 H.done, .slice xa3 H.inn.length xk3, .slice xa4 H.out.length xk4] = w5 at *
  refine hK.out _ _ S5.out (fun _ => ?_)
  clear hK K
  refine wpAnyH_done (by kernel_rfl) ?_ _
  have E1 : W.heap.size ≤ w1.heap.size := S1.out.1.size
  have E2 : W.heap.size ≤ w2.heap.size := S2.out.1.size
  have E3 : W.heap.size ≤ w3.heap.size := S3.out.1.size
  have Q1 : Nums w5 W.heap.size (.slice xa1 H.regs.length xk1) H.regs := Nums.ho (show Nums w1 W.heap.size _ H.regs from N1.out) (H2.out.trans (H3.out.trans (H4.out.trans H5.out)))
  have Q2 : Nums w5 W.heap.size (.slice xa2 H.csr.length xk2) H.csr := (N2.out.mono E1).ho (H3.out.trans (H4.out.trans H5.out))
  have Q3 : Nums w5 W.heap.size (.slice xa3 H.inn.length xk3) H.inn := (N3.out.mono E2).ho (H4.out.trans H5.out)
  have Q4 : Nums w5 W.heap.size (.slice xa4 H.out.length xk4) H.out := (N4.out.mono E3).ho H5.out
  have A12 := N1.out.apt N2.out (Nat.le_refl _)
  have A13 := N1.out.apt N3.out G2.out
  have A14 := N1.out.apt N4.out (Nat.le_trans G2.out G3.out)
  have A23 := N2.out.apt N3.out (Nat.le_refl _)
  have A24 := N2.out.apt N4.out G3.out
  have A34 := N3.out.apt N4.out (Nat.le_refl _)
  have B5 : Below w.heap.size w w5 := Mq.under B0.out S5.out.1 fun k e => by have := HQ.out; omega
  have LD := run_loadVar_mid (P := Tryz.prog) w5 q 0 60 [.slice xa1 H.regs.length xk1, .int .i64 H.pc, .slice xa2 H.csr.length xk2, .bool H.halted, .bool H.waiting, .bool H.rung, .int .i64 H.done, .slice xa3 H.inn.length xk3, .slice xa4 H.out.length xk4] _ R5.out Tryz.underlying60 rfl (by kernel_rfl)
  clear q16 q28 q29 q30 q31 q32 q33
  go_wp2_with fail
  exact bodyPost_ret (v := .agg #[.slice xa1 H.regs.length xk1, .int .i64 H.pc, .slice xa2 H.csr.length xk2, .bool H.halted, .bool H.waiting, .bool H.rung, .int .i64 H.done, .slice xa3 H.inn.length xk3, .slice xa4 H.out.length xk4]) (by simp [results, Tryz.results62, asAddr]; rw [LD]) rfl
    ⟨_, _, _, _, rfl, ⟨Q1.mono B0.out.size, Q2.mono B0.out.size, Q3.mono B0.out.size, Q4.mono B0.out.size⟩, ⟨A12, A13, A14, A23, A24, A34⟩, B5⟩
theorem i_hartV (m : Nat) (i o : Value) (H : Ht) (w : World) (hv : Vc w m (mca H i o)) (hi : Rv w i H.inn) (ho : Rv w o H.out) (hr : H.regs.length = 16) (hc : H.csr.length = 11) (h2 : H.inn.length ≤ 1000) (h3 : H.out.length ≤ 1000) :
    Calls Tryz.prog 62 #[.pointer (some ⟨m, 0, none⟩)] w fun e w' => ∃ r c i' o', e = .returned (.agg #[r, .int .i64 H.pc, c, .bool H.halted, .bool H.waiting, .bool H.rung, .int .i64 H.done, i', o']) ∧ Hm w' w.heap.size r c i' o' H ∧ Ha r c i' o' ∧ Below w.heap.size w w' :=
  i_hartD m 0 i o H w hv.vd hi ho hr hc h2 h3
theorem i_hartr (m : Nat) (i o : Value) (H : Ht) (w : World) (hv : Vb w m (mca H i o) 107) (hi : Rv w i H.inn) (ho : Rv w o H.out) (hr : H.regs.length = 16) (hc : H.csr.length = 11) (h2 : H.inn.length ≤ 1000) (h3 : H.out.length ≤ 1000) :
    Calls Tryz.prog 62 #[.pointer (some ⟨m, 0, none⟩)] w fun e w' => ∃ r c i' o', e = .returned (.agg #[r, .int .i64 H.pc, c, .bool H.halted, .bool H.waiting, .bool H.rung, .int .i64 H.done, i', o']) ∧ Hm w' w.heap.size r c i' o' H ∧ Ha r c i' o' ∧ Below w.heap.size w w' :=
  i_hartV m i o H w hv.vc hi ho hr hc h2 h3
end Go.Proofs.YtggejbphdadckaaGreatDoor
