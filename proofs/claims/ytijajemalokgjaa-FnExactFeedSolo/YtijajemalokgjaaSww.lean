/- SoloWords, of both. -/
import Derived.Test.YtijajemalokgjaaSwv
import Derived.Test.YtijajemalokgjaaSfa
namespace Go.Proofs.Ytijajemalokgjaa
open Go.RowKit
set_option linter.unusedVariables false

def swC (H : Ht) (ps : List (Int × Int)) (zs : List Int) (pg : Int) : Int := if sfV H ps zs = 0 then (if 0 ≤ pg ∧ pg ≤ 7 then 0 else 3) else sfV H ps zs
def swZ (H : Ht) (ps : List (Int × Int)) (zs : List Int) (pg : Int) : List Int := if swC H ps zs pg = 0 then wordsL zs [pg] else []
theorem sw_whole {H : Ht} {ps : List (Int × Int)} {zs : List Int} (h : sfV H ps zs = 0) : zs.length = 64 := by
  unfold sfV at h
  split at h
  · split at h
    · split at h
      · next hw => unfold wholeS at hw; simp at hw; exact hw.1
      · omega
    · omega
  · omega
theorem swZ_len (H : Ht) (ps : List (Int × Int)) (zs : List Int) (pg : Int) : (swZ H ps zs pg).length ≤ 8 := by
  unfold swZ
  split
  · have := wordsL_le zs [pg]
    simpa using this
  · simp
theorem sw_sp {H : Ht} {ps : List (Int × Int)} {zs : List Int} {pg : Int} (h : swC H ps zs pg = 0) : sfV H ps zs = 0 ∧ 0 ≤ pg ∧ pg ≤ 7 := by
  unfold swC at h
  split at h
  · next h0 =>
    split at h
    · next h1 => exact ⟨h0, h1⟩
    · omega
  · next h0 => exact absurd h h0
set_option maxRecDepth 20000 in
set_option maxHeartbeats 4000000 in
theorem i_soloPageFault (r c i o l m : Value) (H : Ht) (ps : List (Int × Int)) (zs : List Int) (pg : Int) (b : Nat) (w : World) (h : Sm w b r c i o l m H ps zs) (hl : ps.length ≤ 1048576) :
    Calls Try.prog 30 #[.agg #[r, .int .i64 H.pc, c, .bool H.halted, .bool H.waiting, .bool H.rung, .int .i64 H.done, i, o, l, m], .int .i64 pg] w fun e w' => e = .returned (.int .i64 (swC H ps zs pg)) ∧ Below w.heap.size w w' := by
  obtain ⟨a0, k0, e0, _⟩ := h.h.r.shape
  obtain ⟨a1, k1, e1, _⟩ := h.h.c.shape
  obtain ⟨a2, k2, e2, _⟩ := h.h.i.shape
  obtain ⟨a3, k3, e3, _⟩ := h.h.o.shape
  obtain ⟨a4, k4, e4, _⟩ := h.pl.shape
  obtain ⟨a5, k5, e5, _, l5, hg5⟩ := h.mm.shape
  subst e0 e1 e2 e3 e4 e5
  generalize hn0 : H.regs.length = n0 at *
  generalize hn1 : H.csr.length = n1 at *
  generalize hn2 : H.inn.length = n2 at *
  generalize hn3 : H.out.length = n3 at *
  obtain ⟨n4, hn4⟩ : ∃ n, ps.length = n := ⟨_, rfl⟩
  rw [hn4] at h ⊢
  obtain ⟨n5, hn5⟩ : ∃ n, zs.length = n := ⟨_, rfl⟩
  have LZ : Hid (zs.length = n5) := hn5
  have HG5 : Hid (0 < zs.length → ∃ g, a5 = some ⟨g, 0, none⟩) := by first | exact hg5 | (show _ → _; intro hh; exact hg5 (by omega))
  rw [hn5] at h ⊢
  have HS : Hid (Sm w b (.slice a0 n0 k0) (.slice a1 n1 k1) (.slice a2 n2 k2) (.slice a3 n3 k3) (.slice a4 n4 k4) (.slice a5 n5 k5) H ps zs) := h
  have HL : Hid (ps.length ≤ 1048576) := hl
  clear h hl hn0 hn1 hn2 hn3 hn4 hn5 l5 hg5
  generalize hW : w.alloc (.cells #[.slice a0 n0 k0, .int .i64 H.pc, .slice a1 n1 k1, .bool H.halted, .bool H.waiting, .bool H.rung, .int .i64 H.done, .slice a2 n2 k2, .slice a3 n3 k3, .slice a4 n4 k4, .slice a5 n5 k5] 35) = W
  have B0 : Hid (Below w.heap.size w W) := by show Below _ _ _; rw [← hW]; exact al (Below.refl _ _) _
  obtain ⟨s, hS⟩ : ∃ s, w.heap.size = s := ⟨_, rfl⟩
  have Q : Hid (Vb W s #[.slice a0 n0 k0, .int .i64 H.pc, .slice a1 n1 k1, .bool H.halted, .bool H.waiting, .bool H.rung, .int .i64 H.done, .slice a2 n2 k2, .slice a3 n3 k3, .slice a4 n4 k4, .slice a5 n5 k5] 35) := by
    show Vb _ _ _ _
    rw [← hW, ← hS]
    exact Vb.new _ _ _
  obtain ⟨x, hx⟩ : ∃ x, sfV H ps zs = x := ⟨_, rfl⟩
  have HX : Hid (sfV H ps zs = x) := hx
  clear hx
  have q0 := Q.out.cell 0 rfl
  have q1 := Q.out.cell 1 rfl
  have q2 := Q.out.cell 2 rfl
  have q3 := Q.out.cell 3 rfl
  have q4 := Q.out.cell 4 rfl
  have q5 := Q.out.cell 5 rfl
  have q6 := Q.out.cell 6 rfl
  have q7 := Q.out.cell 7 rfl
  have q8 := Q.out.cell 8 rfl
  have q9 := Q.out.cell 9 rfl
  have q10 := Q.out.cell 10 rfl
  go_enter Try.func30, Try.ntmps30
  go_wp2_with fail
  clear hW hS q0 q1 q2 q3 q4 q5 q6 q7 q8 q9 q10
  refine (i_soloFault _ _ _ _ _ _ H ps zs _ _ (HS.out.keep B0.out) HL.out).mono ?_
  rw [HX.out]
  rintro e w1 ⟨rfl, b1⟩
  have B1 : Hid (Below w.heap.size w w1) := on B0.out b1
  clear b1
  by_cases h0 : x = 0
  · have X0 : Hid (x = 0) := h0
    have hx0 : (x != 0) = false := by simp [h0]
    clear h0
    by_cases h1 : pg < 0
    · have CV : Hid (swC H ps zs pg = 3) := by show _ = _; rw [swC, HX.out, if_pos X0.out, if_neg (by omega)]
      go_wp2_with fail
      go_ret
      exact ⟨by rw [CV.out]; rfl, B1.out⟩
    · by_cases h2 : 8 ≤ pg
      · have CV : Hid (swC H ps zs pg = 3) := by show _ = _; rw [swC, HX.out, if_pos X0.out, if_neg (by omega)]
        go_wp2_with fail
        go_ret
        exact ⟨by rw [CV.out]; rfl, B1.out⟩
      · have CV : Hid (swC H ps zs pg = 0) := by show _ = _; rw [swC, HX.out, if_pos X0.out, if_pos (by omega)]
        go_wp2_with fail
        go_ret
        exact ⟨by rw [CV.out]; rfl, B1.out⟩
  · have X0 : Hid (¬ x = 0) := h0
    have hx0 : (x != 0) = true := by simp [h0]
    have CV : Hid (swC H ps zs pg = x) := by show _ = _; rw [swC, HX.out, if_neg h0]
    clear h0
    go_wp2_with fail
    go_ret
    exact ⟨by rw [CV.out]; rfl, B1.out⟩
set_option maxRecDepth 20000 in
set_option maxHeartbeats 4000000 in
theorem i_soloWords (r c i o l m : Value) (H : Ht) (ps : List (Int × Int)) (zs : List Int) (pg : Int) (b : Nat) (w : World) (h : Sm w b r c i o l m H ps zs) (hl : ps.length ≤ 1048576) :
    Calls Try.prog 8 #[.agg #[r, .int .i64 H.pc, c, .bool H.halted, .bool H.waiting, .bool H.rung, .int .i64 H.done, i, o, l, m], .int .i64 pg] w fun e w' => ∃ v, e = .returned (.agg #[.int .i64 (swC H ps zs pg), v]) ∧ Nums w' w.heap.size v (swZ H ps zs pg) ∧ Below w.heap.size w w' := by
  obtain ⟨a0, k0, e0, _⟩ := h.h.r.shape
  obtain ⟨a1, k1, e1, _⟩ := h.h.c.shape
  obtain ⟨a2, k2, e2, _⟩ := h.h.i.shape
  obtain ⟨a3, k3, e3, _⟩ := h.h.o.shape
  obtain ⟨a4, k4, e4, _⟩ := h.pl.shape
  obtain ⟨a5, k5, e5, _, l5, hg5⟩ := h.mm.shape
  subst e0 e1 e2 e3 e4 e5
  generalize hn0 : H.regs.length = n0 at *
  generalize hn1 : H.csr.length = n1 at *
  generalize hn2 : H.inn.length = n2 at *
  generalize hn3 : H.out.length = n3 at *
  obtain ⟨n4, hn4⟩ : ∃ n, ps.length = n := ⟨_, rfl⟩
  rw [hn4] at h ⊢
  obtain ⟨n5, hn5⟩ : ∃ n, zs.length = n := ⟨_, rfl⟩
  have LZ : Hid (zs.length = n5) := hn5
  have HG5 : Hid (0 < zs.length → ∃ g, a5 = some ⟨g, 0, none⟩) := by first | exact hg5 | (show _ → _; intro hh; exact hg5 (by omega))
  rw [hn5] at h ⊢
  have HS : Hid (Sm w b (.slice a0 n0 k0) (.slice a1 n1 k1) (.slice a2 n2 k2) (.slice a3 n3 k3) (.slice a4 n4 k4) (.slice a5 n5 k5) H ps zs) := h
  have HL : Hid (ps.length ≤ 1048576) := hl
  clear h hl hn0 hn1 hn2 hn3 hn4 hn5 l5 hg5
  generalize hW : (w.alloc (.cells #[.slice a0 n0 k0, .int .i64 H.pc, .slice a1 n1 k1, .bool H.halted, .bool H.waiting, .bool H.rung, .int .i64 H.done, .slice a2 n2 k2, .slice a3 n3 k3, .slice a4 n4 k4, .slice a5 n5 k5] 35)).alloc (.cells #[.int .i64 0, .slice none 0 0] 30) = W
  have B0 : Hid (Below w.heap.size w W) := by show Below _ _ _; rw [← hW]; exact al (al (Below.refl _ _) _) _
  obtain ⟨s, hS⟩ : ∃ s, w.heap.size = s := ⟨_, rfl⟩
  have HSs : Hid (w.heap.size = s) := hS
  have Q : Hid (Vb W s #[.slice a0 n0 k0, .int .i64 H.pc, .slice a1 n1 k1, .bool H.halted, .bool H.waiting, .bool H.rung, .int .i64 H.done, .slice a2 n2 k2, .slice a3 n3 k3, .slice a4 n4 k4, .slice a5 n5 k5] 35) := by
    show Vb _ _ _ _
    rw [← hW, ← hS]
    exact (Vb.new _ _ _).keep (al (Below.refl _ _) _)
  have R : Hid (Vb W (s + 1) #[.int .i64 0, .slice none 0 0] 30) := by
    have z1 : s + 1 = (w.alloc (.cells #[.slice a0 n0 k0, .int .i64 H.pc, .slice a1 n1 k1, .bool H.halted, .bool H.waiting, .bool H.rung, .int .i64 H.done, .slice a2 n2 k2, .slice a3 n3 k3, .slice a4 n4 k4, .slice a5 n5 k5] 35)).heap.size := by rw [← hS]; simp
    show Vb _ _ _ _
    rw [← hW, z1]
    exact Vb.new _ _ _
  have q0 := Q.out.cell 0 rfl
  have q1 := Q.out.cell 1 rfl
  have q2 := Q.out.cell 2 rfl
  have q3 := Q.out.cell 3 rfl
  have q4 := Q.out.cell 4 rfl
  have q5 := Q.out.cell 5 rfl
  have q6 := Q.out.cell 6 rfl
  have q7 := Q.out.cell 7 rfl
  have q8 := Q.out.cell 8 rfl
  have q9 := Q.out.cell 9 rfl
  have q10 := Q.out.cell 10 rfl
  go_enter Try.func8, Try.ntmps8
  go_wp2_with fail
  clear hW hS q0 q1 q2 q3 q4 q5 q6 q7 q8 q9 q10
  obtain ⟨x, hx⟩ : ∃ x, swC H ps zs pg = x := ⟨_, rfl⟩
  have HX : Hid (swC H ps zs pg = x) := hx
  clear hx
  refine (i_soloPageFault _ _ _ _ _ _ H ps zs pg _ _ (HS.out.keep B0.out) HL.out).mono ?_
  rw [HX.out]
  rintro e w1 ⟨rfl, b1⟩
  have B1 : Hid (Below w.heap.size w w1) := on B0.out b1
  have D1 : Hid (Below W.heap.size W w1) := b1
  have Q1 : Hid (Vb w1 s #[.slice a0 n0 k0, .int .i64 H.pc, .slice a1 n1 k1, .bool H.halted, .bool H.waiting, .bool H.rung, .int .i64 H.done, .slice a2 n2 k2, .slice a3 n3 k3, .slice a4 n4 k4, .slice a5 n5 k5] 35) := Q.out.keep b1
  have R1 : Hid (Vb w1 (s + 1) #[.int .i64 0, .slice none 0 0] 30) := R.out.keep b1
  clear b1
  by_cases h0 : x = 0
  case neg =>
    have hx0 : (x != 0) = true := by simp [h0]
    have CV : Hid (swC H ps zs pg = x) := by show _ = _; exact HX.out
    have ZV : Hid (swZ H ps zs pg = []) := by show _ = _; rw [swZ, if_neg (by rw [CV.out]; exact h0)]
    clear h0
    have r0 := R1.out.cell 0 rfl
    have r1 := R1.out.cell 1 rfl
    have f0 := R1.out.free 0
    have f1 := R1.out.free 1
    have lt := R1.out.lt
    go_wp2_with fail
    exact bodyPost_ret (v := .agg #[.int .i64 x, .slice none 0 0]) (by simp [results, Try.results8, go_sem, r0, r1]) rfl ⟨.slice none 0 0, by rw [CV.out], by rw [ZV.out]; exact Nums.nil _ _, (B1.out.setCell (by have := HSs.out; show w.heap.size ≤ s + 1; omega) _).setCell (by have := HSs.out; show w.heap.size ≤ s + 1; omega) _⟩
  have hx0 : (x != 0) = false := by simp [h0]
  have SP : Hid (sfV H ps zs = 0 ∧ 0 ≤ pg ∧ pg ≤ 7) := sw_sp (HX.out.trans h0)
  have CV : Hid (swC H ps zs pg = 0) := HX.out.trans h0
  have ZV : Hid (swZ H ps zs pg = wordsL zs [pg]) := by show _ = _; rw [swZ, if_pos (HX.out.trans h0)]
  clear h0
  have LE : Hid (zs.length = 64) := sw_whole SP.out.1
  obtain ⟨gm, hgm⟩ := HG5.out (by rw [LE.out]; decide)
  subst hgm
  have HMw : Hid (Nums w1 b (.slice (some ⟨gm, 0, none⟩) n5 k5) zs) := HS.out.mm.keep (on B0.out D1.out)
  have q10 := Q1.out.cell 10 rfl
  go_wp2_with fail
  clear q10
  refine (i_wordsOn8 _ _ _ _ zs _ _ _ [pg] _ (HMw.out.keep (al (Below.refl _ _) _)) LE.out (ns_one _ _ _) (by intro x hx; rw [List.mem_singleton] at hx; rw [hx]; exact SP.out.2) ⟨by simp, by simp⟩).mono ?_
  rintro e w2 ⟨v, rfl, n2', b2⟩
  have B2 : Hid (Below w.heap.size w w2) := on B1.out (on (al (Below.refl _ _) _) b2)
  have D2 : Hid (Below w1.heap.size w1 w2) := on (al (Below.refl _ _) _) b2
  obtain ⟨ya, yc, hv, _, _, _⟩ := n2'.shape
  have NN : Hid (Nums w2 w.heap.size v (wordsL zs [pg])) := n2'.mono (Nat.le_trans B1.out.size (by simp))
  have NL : Hid (∀ k, v.ownBlock = some k → w1.heap.size ≤ k) := fun k e => Nat.le_trans (by simp) (n2'.lt k e).1
  have LT : Hid (s + 1 < w1.heap.size) := R1.out.lt
  generalize (wordsL zs [pg]).length = ln at hv
  subst hv
  have R2 : Hid (Vb w2 (s + 1) #[.int .i64 0, .slice none 0 0] 30) := R1.out.keep D2.out
  have r0 := R2.out.cell 0 rfl
  have r1 := R2.out.cell 1 rfl
  have f0 := R2.out.free 0
  have f1 := R2.out.free 1
  have lt := R2.out.lt
  clear b2 n2'
  go_wp2_with fail
  refine bodyPost_ret (v := .agg #[.int .i64 0, .slice ya ln yc]) (by simp [results, Try.results8, go_sem, r0, r1]) rfl ⟨.slice ya ln yc, by rw [CV.out], ?_, (B2.out.setCell (by have := HSs.out; show w.heap.size ≤ s + 1; omega) _).setCell (by have := HSs.out; show w.heap.size ≤ s + 1; omega) _⟩
  have ne : (Value.slice ya ln yc).ownBlock ≠ some (s + 1) := fun e => by have := NL.out _ e; have := LT.out; omega
  rw [ZV.out]
  exact (NN.out.put ⟨s + 1, 0, none⟩ (.int .i64 0) ne).put ⟨s + 1, 1, none⟩ (.slice ya ln yc) ne
set_option maxRecDepth 20000 in
set_option maxHeartbeats 4000000 in
theorem s_soloWords (r c i o l m : Value) (H : Ht) (ps : List (Int × Int)) (zs : List Int) (pg : Int) (b : Nat) (w : World) (h : Sm w b r c i o l m H ps zs) (hl : ps.length ≤ 1048576) :
    Calls Try.prog 6 #[.agg #[r, .int .i64 H.pc, c, .bool H.halted, .bool H.waiting, .bool H.rung, .int .i64 H.done, i, o, l, m], .int .i64 pg] w fun e w' => ∃ v, e = .returned (.agg #[.int .i64 (swC H ps zs pg), v]) ∧ Nums w' w.heap.size v (swZ H ps zs pg) ∧ Below w.heap.size w w' := by
  obtain ⟨a0, k0, e0, _⟩ := h.h.r.shape
  obtain ⟨a1, k1, e1, _⟩ := h.h.c.shape
  obtain ⟨a2, k2, e2, _⟩ := h.h.i.shape
  obtain ⟨a3, k3, e3, _⟩ := h.h.o.shape
  obtain ⟨a4, k4, e4, _⟩ := h.pl.shape
  obtain ⟨a5, k5, e5, _, l5, hg5⟩ := h.mm.shape
  subst e0 e1 e2 e3 e4 e5
  generalize hn0 : H.regs.length = n0 at *
  generalize hn1 : H.csr.length = n1 at *
  generalize hn2 : H.inn.length = n2 at *
  generalize hn3 : H.out.length = n3 at *
  obtain ⟨n4, hn4⟩ : ∃ n, ps.length = n := ⟨_, rfl⟩
  rw [hn4] at h ⊢
  obtain ⟨n5, hn5⟩ : ∃ n, zs.length = n := ⟨_, rfl⟩
  have LZ : Hid (zs.length = n5) := hn5
  have HG5 : Hid (0 < zs.length → ∃ g, a5 = some ⟨g, 0, none⟩) := by first | exact hg5 | (show _ → _; intro hh; exact hg5 (by omega))
  rw [hn5] at h ⊢
  have HS : Hid (Sm w b (.slice a0 n0 k0) (.slice a1 n1 k1) (.slice a2 n2 k2) (.slice a3 n3 k3) (.slice a4 n4 k4) (.slice a5 n5 k5) H ps zs) := h
  have HL : Hid (ps.length ≤ 1048576) := hl
  clear h hl hn0 hn1 hn2 hn3 hn4 hn5 l5 hg5
  generalize hW : (w.alloc (.cells #[.slice a0 n0 k0, .int .i64 H.pc, .slice a1 n1 k1, .bool H.halted, .bool H.waiting, .bool H.rung, .int .i64 H.done, .slice a2 n2 k2, .slice a3 n3 k3, .slice a4 n4 k4, .slice a5 n5 k5] 35)).alloc (.cells #[.int .i64 0, .slice none 0 0] 30) = W
  have B0 : Hid (Below w.heap.size w W) := by show Below _ _ _; rw [← hW]; exact al (al (Below.refl _ _) _) _
  obtain ⟨s, hS⟩ : ∃ s, w.heap.size = s := ⟨_, rfl⟩
  have HSs : Hid (w.heap.size = s) := hS
  have Q : Hid (Vb W s #[.slice a0 n0 k0, .int .i64 H.pc, .slice a1 n1 k1, .bool H.halted, .bool H.waiting, .bool H.rung, .int .i64 H.done, .slice a2 n2 k2, .slice a3 n3 k3, .slice a4 n4 k4, .slice a5 n5 k5] 35) := by
    show Vb _ _ _ _
    rw [← hW, ← hS]
    exact (Vb.new _ _ _).keep (al (Below.refl _ _) _)
  have R : Hid (Vb W (s + 1) #[.int .i64 0, .slice none 0 0] 30) := by
    have z1 : s + 1 = (w.alloc (.cells #[.slice a0 n0 k0, .int .i64 H.pc, .slice a1 n1 k1, .bool H.halted, .bool H.waiting, .bool H.rung, .int .i64 H.done, .slice a2 n2 k2, .slice a3 n3 k3, .slice a4 n4 k4, .slice a5 n5 k5] 35)).heap.size := by rw [← hS]; simp
    show Vb _ _ _ _
    rw [← hW, z1]
    exact Vb.new _ _ _
  have q0 := Q.out.cell 0 rfl
  have q1 := Q.out.cell 1 rfl
  have q2 := Q.out.cell 2 rfl
  have q3 := Q.out.cell 3 rfl
  have q4 := Q.out.cell 4 rfl
  have q5 := Q.out.cell 5 rfl
  have q6 := Q.out.cell 6 rfl
  have q7 := Q.out.cell 7 rfl
  have q8 := Q.out.cell 8 rfl
  have q9 := Q.out.cell 9 rfl
  have q10 := Q.out.cell 10 rfl
  go_enter Try.func6, Try.ntmps6
  go_wp2_with fail
  clear hW hS q0 q1 q2 q3 q4 q5 q6 q7 q8 q9 q10
  obtain ⟨x, hx⟩ : ∃ x, sfV H ps zs = x := ⟨_, rfl⟩
  have HX : Hid (sfV H ps zs = x) := hx
  clear hx
  refine (s_soloFault _ _ _ _ _ _ H ps zs _ _ (HS.out.keep B0.out) HL.out).mono ?_
  rw [HX.out]
  rintro e w1 ⟨rfl, b1⟩
  have B1 : Hid (Below w.heap.size w w1) := on B0.out b1
  have D1 : Hid (Below W.heap.size W w1) := b1
  have Q1 : Hid (Vb w1 s #[.slice a0 n0 k0, .int .i64 H.pc, .slice a1 n1 k1, .bool H.halted, .bool H.waiting, .bool H.rung, .int .i64 H.done, .slice a2 n2 k2, .slice a3 n3 k3, .slice a4 n4 k4, .slice a5 n5 k5] 35) := Q.out.keep b1
  have R1 : Hid (Vb w1 (s + 1) #[.int .i64 0, .slice none 0 0] 30) := R.out.keep b1
  clear b1
  by_cases h0 : x = 0
  case neg =>
    have hx0 : (x != 0) = true := by simp [h0]
    have CV : Hid (swC H ps zs pg = x) := by show _ = _; rw [swC, HX.out, if_neg h0]
    have ZV : Hid (swZ H ps zs pg = []) := by show _ = _; rw [swZ, if_neg (by rw [CV.out]; exact h0)]
    clear h0
    have r0 := R1.out.cell 0 rfl
    have r1 := R1.out.cell 1 rfl
    have f0 := R1.out.free 0
    have f1 := R1.out.free 1
    have lt := R1.out.lt
    go_wp2_with fail
    exact bodyPost_ret (v := .agg #[.int .i64 x, .slice none 0 0]) (by simp [results, Try.results6, go_sem, r0, r1]) rfl ⟨.slice none 0 0, by rw [CV.out], by rw [ZV.out]; exact Nums.nil _ _, (B1.out.setCell (by have := HSs.out; show w.heap.size ≤ s + 1; omega) _).setCell (by have := HSs.out; show w.heap.size ≤ s + 1; omega) _⟩
  have hx0 : (x != 0) = false := by simp [h0]
  have X0 : Hid (x = 0) := h0
  clear h0
  by_cases h1 : 0 ≤ pg ∧ pg ≤ 7
  case neg =>
    have hd : (decide ((0 : Int) ≤ pg) && decide (pg ≤ 7)) = false := by simp; omega
    have CV : Hid (swC H ps zs pg = 3) := by show _ = _; rw [swC, HX.out, if_pos X0.out, if_neg h1]
    have ZV : Hid (swZ H ps zs pg = []) := by show _ = _; rw [swZ, if_neg (by rw [CV.out]; decide)]
    clear h1
    have r0 := R1.out.cell 0 rfl
    have r1 := R1.out.cell 1 rfl
    have f0 := R1.out.free 0
    have f1 := R1.out.free 1
    have lt := R1.out.lt
    go_wp2_with (go_at_call 26; refine (spec_in _ _ _ _).mono ?_; rintro e y ⟨rfl, hy⟩; rw [hy]; clear hy y)
    exact bodyPost_ret (v := .agg #[.int .i64 3, .slice none 0 0]) (by simp [results, Try.results6, go_sem, r0, r1]) rfl ⟨.slice none 0 0, by rw [CV.out], by rw [ZV.out]; exact Nums.nil _ _, (B1.out.setCell (by have := HSs.out; show w.heap.size ≤ s + 1; omega) _).setCell (by have := HSs.out; show w.heap.size ≤ s + 1; omega) _⟩
  have hd : (decide ((0 : Int) ≤ pg) && decide (pg ≤ 7)) = true := by simp; omega
  have SP : Hid (sfV H ps zs = 0 ∧ 0 ≤ pg ∧ pg ≤ 7) := ⟨HX.out.trans X0.out, h1.1, h1.2⟩
  have CV : Hid (swC H ps zs pg = 0) := by show _ = _; rw [swC, HX.out, if_pos X0.out, if_pos h1]
  have ZV : Hid (swZ H ps zs pg = wordsL zs [pg]) := by show _ = _; rw [swZ, if_pos CV.out]
  clear h1
  have LE : Hid (zs.length = 64) := sw_whole SP.out.1
  obtain ⟨gm, hgm⟩ := HG5.out (by rw [LE.out]; decide)
  subst hgm
  have HMw : Hid (Nums w1 b (.slice (some ⟨gm, 0, none⟩) n5 k5) zs) := HS.out.mm.keep (on B0.out D1.out)
  have q10 := Q1.out.cell 10 rfl
  go_wp2_with (first | (go_at_call 26; refine (spec_in _ _ _ _).mono ?_; rintro e y ⟨rfl, hy⟩; rw [hy]; clear hy y) | fail)
  clear q10
  refine (l7_words8 _ _ _ _ zs _ _ _ [pg] _ (HMw.out.keep (al (Below.refl _ _) _)) LE.out (ns_one _ _ _) (by intro x hx; rw [List.mem_singleton] at hx; rw [hx]; exact SP.out.2) ⟨by simp, by simp⟩).mono ?_
  rintro e w2 ⟨v, rfl, n2', b2⟩
  have B2 : Hid (Below w.heap.size w w2) := on B1.out (on (al (Below.refl _ _) _) b2)
  have D2 : Hid (Below w1.heap.size w1 w2) := on (al (Below.refl _ _) _) b2
  obtain ⟨ya, yc, hv, _, _, _⟩ := n2'.shape
  have NN : Hid (Nums w2 w.heap.size v (wordsL zs [pg])) := n2'.mono (Nat.le_trans B1.out.size (by simp))
  have NL : Hid (∀ k, v.ownBlock = some k → w1.heap.size ≤ k) := fun k e => Nat.le_trans (by simp) (n2'.lt k e).1
  have LT : Hid (s + 1 < w1.heap.size) := R1.out.lt
  generalize (wordsL zs [pg]).length = ln at hv
  subst hv
  have R2 : Hid (Vb w2 (s + 1) #[.int .i64 0, .slice none 0 0] 30) := R1.out.keep D2.out
  have r0 := R2.out.cell 0 rfl
  have r1 := R2.out.cell 1 rfl
  have f0 := R2.out.free 0
  have f1 := R2.out.free 1
  have lt := R2.out.lt
  clear b2 n2'
  go_wp2_with fail
  refine bodyPost_ret (v := .agg #[.int .i64 0, .slice ya ln yc]) (by simp [results, Try.results6, go_sem, r0, r1]) rfl ⟨.slice ya ln yc, by rw [CV.out], ?_, (B2.out.setCell (by have := HSs.out; show w.heap.size ≤ s + 1; omega) _).setCell (by have := HSs.out; show w.heap.size ≤ s + 1; omega) _⟩
  have ne : (Value.slice ya ln yc).ownBlock ≠ some (s + 1) := fun e => by have := NL.out _ e; have := LT.out; omega
  rw [ZV.out]
  exact (NN.out.put ⟨s + 1, 0, none⟩ (.int .i64 0) ne).put ⟨s + 1, 1, none⟩ (.slice ya ln yc) ne
end Go.Proofs.Ytijajemalokgjaa
