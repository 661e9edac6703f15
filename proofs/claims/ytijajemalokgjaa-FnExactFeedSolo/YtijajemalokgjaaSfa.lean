/- The fault of a lonely machine. -/
import Derived.Test.YtijajemalokgjaaSla
import Derived.Test.YtijajemalokgjaaSfs
import Derived.Test.YtijajemalokgjaaHfi
import Derived.Test.YtijajemalokgjaaPgf
import Derived.Test.YtijajemalokgjaaPgs4
namespace Go.Proofs.Ytijajemalokgjaa
open Go.RowKit
set_option linter.unusedVariables false

def wholeS (ms : List Int) : Bool := decide (ms.length = 64) && decide (memV ms = 0)
def sfV (H : Ht) (ps : List (Int × Int)) (zs : List Int) : Int := if hfV H = 0 then (if pgsV ps 8 = 0 then (if wholeS zs = true then 0 else 1) else pgsV ps 8) else hfV H
theorem i_whole8 (v : Value) (ms : List Int) (b : Nat) (w : World) (h : Nums w b v ms) :
    Calls Try.prog 64 #[v, .int .i64 8] w fun e w' => e = .returned (.bool (wholeS ms)) ∧ w' = w := by
  obtain ⟨a, cap, rfl, l1, l2, hg⟩ := h.shape
  have HM : Hid (Nums w b _ ms) := h
  unfold wholeS
  have hl : (ms.length : Int) ≤ 9223372036854775807 := by unfold maxLen at l2; omega
  obtain ⟨n, hn⟩ : ∃ n, ms.length = n := ⟨_, rfl⟩
  rw [hn] at HM hl ⊢
  clear h l1 l2 hg
  by_cases h1 : n = 64
  · rw [decide_eq_true h1, Bool.true_and]
    have h1i : (n : Int) = 64 := by omega
    have HM2 : Hid (Nums w b (.slice a 64 cap) ms) := by rw [h1] at HM; exact HM
    subst h1
    clear hn h1i
    by_cases h2 : memV ms = 0
    · go_enter Try.func64, Try.ntmps64
      go_wp2_with (go_at_call 70; refine (impl_memFault _ ms b _ HM2.out).mono ?_; rintro e w ⟨rfl, rfl⟩; rw [h2])
      go_ret
      exact ⟨by first | rfl | simp [h2], rfl⟩
    · have h4 : decide (memV ms = 0) = false := decide_eq_false h2
      rw [h4]
      obtain ⟨mv, hmv⟩ : ∃ mv, memV ms = mv := ⟨_, rfl⟩
      rw [hmv] at h2
      have HMV : Hid (memV ms = mv) := hmv
      clear hmv h4
      have h5 : (mv == 0) = false := by simpa using h2
      go_enter Try.func64, Try.ntmps64
      go_wp2_with (go_at_call 70; refine (impl_memFault _ ms b _ HM2.out).mono ?_; rintro e w ⟨rfl, rfl⟩; rw [HMV.out])
      go_ret
      exact ⟨by first | rfl | simp [h5], rfl⟩
  · have h1i : ¬ (n : Int) = 64 := by omega
    rw [decide_eq_false h1, Bool.false_and]
    clear hn
    go_enter Try.func64, Try.ntmps64
    go_wp2_with fail
    go_ret
    exact ⟨by first | rfl | simp_all, rfl⟩
set_option maxRecDepth 20000 in
set_option maxHeartbeats 8000000 in
theorem i_soloFault (r c i o l m : Value) (H : Ht) (ps : List (Int × Int)) (zs : List Int) (b : Nat) (w : World) (h : Sm w b r c i o l m H ps zs) (hl : ps.length ≤ 1048576) :
    Calls Try.prog 47 #[.agg #[r, .int .i64 H.pc, c, .bool H.halted, .bool H.waiting, .bool H.rung, .int .i64 H.done, i, o, l, m]] w fun e w' => e = .returned (.int .i64 (sfV H ps zs)) ∧ Below w.heap.size w w' := by
  have HS : Hid (Sm w b r c i o l m H ps zs) := h
  have HL : Hid (ps.length ≤ 1048576) := hl
  obtain ⟨z, hz⟩ : ∃ z, sfV H ps zs = z := ⟨_, rfl⟩
  obtain ⟨x, hx⟩ : ∃ x, hfV H = x := ⟨_, rfl⟩
  obtain ⟨y, hy⟩ : ∃ y, pgsV ps 8 = y := ⟨_, rfl⟩
  rw [hz]
  have Z : Hid (z = if x = 0 then (if y = 0 then (if wholeS zs = true then 0 else 1) else y) else x) := by show _ = _; rw [← hz, ← hx, ← hy]; rfl
  have HX : Hid (hfV H = x) := hx
  have HY : Hid (pgsV ps 8 = y) := hy
  clear hz hx hy
  clear hl
  obtain ⟨a0, k0, e0, _⟩ := h.h.r.shape
  obtain ⟨a1, k1, e1, _⟩ := h.h.c.shape
  obtain ⟨a2, k2, e2, _⟩ := h.h.i.shape
  obtain ⟨a3, k3, e3, _⟩ := h.h.o.shape
  obtain ⟨a4, k4, e4, _⟩ := h.pl.shape
  obtain ⟨a5, k5, e5, _, l5, _⟩ := h.mm.shape
  clear h
  subst e0 e1 e2 e3 e4 e5
  generalize hn0 : H.regs.length = n0 at *
  generalize hn1 : H.csr.length = n1 at *
  generalize hn2 : H.inn.length = n2 at *
  generalize hn3 : H.out.length = n3 at *
  obtain ⟨n4, hn4⟩ : ∃ n, ps.length = n := ⟨_, rfl⟩
  rw [hn4] at HS ⊢
  obtain ⟨n5, hn5⟩ : ∃ n, zs.length = n := ⟨_, rfl⟩
  have LZ : Hid (zs.length = n5) := hn5
  rw [hn5] at HS ⊢
  have l5i : (n5 : Int) ≤ 9223372036854775807 := by have := HS.out.mm.lens; unfold maxLen at this; omega
  clear hn0 hn1 hn2 hn3 hn4 hn5 l5
  generalize hW : w.alloc (.cells #[.slice a0 n0 k0, .int .i64 H.pc, .slice a1 n1 k1, .bool H.halted, .bool H.waiting, .bool H.rung, .int .i64 H.done, .slice a2 n2 k2, .slice a3 n3 k3, .slice a4 n4 k4, .slice a5 n5 k5] 35) = W
  have B0 : Hid (Below w.heap.size w W) := by show Below _ _ _; rw [← hW]; exact al (Below.refl _ _) _
  obtain ⟨s, hS⟩ : ∃ s, w.heap.size = s := ⟨_, rfl⟩
  have Q : Hid (Vb W s #[.slice a0 n0 k0, .int .i64 H.pc, .slice a1 n1 k1, .bool H.halted, .bool H.waiting, .bool H.rung, .int .i64 H.done, .slice a2 n2 k2, .slice a3 n3 k3, .slice a4 n4 k4, .slice a5 n5 k5] 35) := by show Vb _ _ _ _; rw [← hW, ← hS]; exact Vb.new _ _ _
  have q0 := Q.out.cell 0 rfl
  have q1 := Q.out.cell 1 rfl
  have q2 := Q.out.cell 2 rfl
  have q3 := Q.out.cell 3 rfl
  have q4 := Q.out.cell 4 rfl
  have q5 := Q.out.cell 5 rfl
  have q6 := Q.out.cell 6 rfl
  have q7 := Q.out.cell 7 rfl
  have q8 := Q.out.cell 8 rfl
  go_enter Try.func47, Try.ntmps47
  go_wp2_with fail
  clear hW hS q0 q1 q2 q3 q4 q5 q6 q7 q8
  refine (i_fault _ _ _ _ H _ _ (HS.out.h.keep B0.out)).mono ?_
  rw [HX.out]
  rintro e w1 ⟨rfl, b1⟩
  have B1 : Hid (Below w.heap.size w w1) := on B0.out b1
  have Q1 : Hid (Vb w1 s #[.slice a0 n0 k0, .int .i64 H.pc, .slice a1 n1 k1, .bool H.halted, .bool H.waiting, .bool H.rung, .int .i64 H.done, .slice a2 n2 k2, .slice a3 n3 k3, .slice a4 n4 k4, .slice a5 n5 k5] 35) := Q.out.keep b1
  clear b1 Q B0
  by_cases h0 : x = 0
  · have X0 : Hid (x = 0) := h0
    have hx0 : (x != 0) = false := by simp [h0]
    clear h0
    have q9 := Q1.out.cell 9 rfl
    go_wp2_with fail
    clear q9
    refine (impl_fault _ ps 8 _ _ (HS.out.pl.keep B1.out) HL.out).mono ?_
    rw [HY.out]
    rintro e w2 ⟨rfl, b2⟩
    have B2 : Hid (Below w.heap.size w w2) := on B1.out b2
    have Q2 : Hid (Vb w2 s #[.slice a0 n0 k0, .int .i64 H.pc, .slice a1 n1 k1, .bool H.halted, .bool H.waiting, .bool H.rung, .int .i64 H.done, .slice a2 n2 k2, .slice a3 n3 k3, .slice a4 n4 k4, .slice a5 n5 k5] 35) := Q1.out.keep b2
    clear b2 Q1
    by_cases h1 : y = 0
    · have Y0 : Hid (y = 0) := h1
      have hy0 : (y != 0) = false := by simp [h1]
      clear h1
      have q10 := Q2.out.cell 10 rfl
      go_wp2_with fail
      clear q10
      refine (i_whole8 _ zs _ _ (HS.out.mm.keep B2.out)).mono ?_
      rintro e y2 ⟨rfl, hy2⟩
      rw [hy2]
      clear hy2 y2
      cases hw : wholeS zs with
      | true =>
        go_wp2_with fail
        go_ret
        exact ⟨by rw [Z.out, if_pos X0.out, if_pos Y0.out, hw]; rfl, B2.out⟩
      | false =>
        go_wp2_with fail
        go_ret
        exact ⟨by rw [Z.out, if_pos X0.out, if_pos Y0.out, hw]; rfl, B2.out⟩
    · have Y0 : Hid (¬ y = 0) := h1
      have hy0 : (y != 0) = true := by simp [h1]
      clear h1
      go_wp2_with fail
      go_ret
      exact ⟨by rw [Z.out, if_pos X0.out, if_neg Y0.out]; rfl, B2.out⟩
  · have X0 : Hid (¬ x = 0) := h0
    have hx0 : (x != 0) = true := by simp [h0]
    clear h0
    go_wp2_with fail
    go_ret
    exact ⟨by rw [Z.out, if_neg X0.out]; rfl, B1.out⟩
set_option maxRecDepth 20000 in
set_option maxHeartbeats 8000000 in
theorem s_soloFault (r c i o l m : Value) (H : Ht) (ps : List (Int × Int)) (zs : List Int) (b : Nat) (w : World) (h : Sm w b r c i o l m H ps zs) (hl : ps.length ≤ 1048576) :
    Calls Try.prog 25 #[.agg #[r, .int .i64 H.pc, c, .bool H.halted, .bool H.waiting, .bool H.rung, .int .i64 H.done, i, o, l, m]] w fun e w' => e = .returned (.int .i64 (sfV H ps zs)) ∧ Below w.heap.size w w' := by
  have HS : Hid (Sm w b r c i o l m H ps zs) := h
  have HL : Hid (ps.length ≤ 1048576) := hl
  obtain ⟨z, hz⟩ : ∃ z, sfV H ps zs = z := ⟨_, rfl⟩
  obtain ⟨x, hx⟩ : ∃ x, hfV H = x := ⟨_, rfl⟩
  obtain ⟨y, hy⟩ : ∃ y, pgsV ps 8 = y := ⟨_, rfl⟩
  rw [hz]
  have Z : Hid (z = if x = 0 then (if y = 0 then (if wholeS zs = true then 0 else 1) else y) else x) := by show _ = _; rw [← hz, ← hx, ← hy]; rfl
  have HX : Hid (hfV H = x) := hx
  have HY : Hid (pgsV ps 8 = y) := hy
  clear hz hx hy
  obtain ⟨mv, hmv⟩ : ∃ v, memV zs = v := ⟨_, rfl⟩
  have HMV : Hid (memV zs = mv) := hmv
  clear hl hmv
  obtain ⟨a0, k0, e0, _⟩ := h.h.r.shape
  obtain ⟨a1, k1, e1, _⟩ := h.h.c.shape
  obtain ⟨a2, k2, e2, _⟩ := h.h.i.shape
  obtain ⟨a3, k3, e3, _⟩ := h.h.o.shape
  obtain ⟨a4, k4, e4, _⟩ := h.pl.shape
  obtain ⟨a5, k5, e5, _, l5, _⟩ := h.mm.shape
  clear h
  subst e0 e1 e2 e3 e4 e5
  generalize hn0 : H.regs.length = n0 at *
  generalize hn1 : H.csr.length = n1 at *
  generalize hn2 : H.inn.length = n2 at *
  generalize hn3 : H.out.length = n3 at *
  obtain ⟨n4, hn4⟩ : ∃ n, ps.length = n := ⟨_, rfl⟩
  rw [hn4] at HS ⊢
  obtain ⟨n5, hn5⟩ : ∃ n, zs.length = n := ⟨_, rfl⟩
  have LZ : Hid (zs.length = n5) := hn5
  rw [hn5] at HS ⊢
  have l5i : (n5 : Int) ≤ 9223372036854775807 := by have := HS.out.mm.lens; unfold maxLen at this; omega
  clear hn0 hn1 hn2 hn3 hn4 hn5 l5
  generalize hW : w.alloc (.cells #[.slice a0 n0 k0, .int .i64 H.pc, .slice a1 n1 k1, .bool H.halted, .bool H.waiting, .bool H.rung, .int .i64 H.done, .slice a2 n2 k2, .slice a3 n3 k3, .slice a4 n4 k4, .slice a5 n5 k5] 35) = W
  have B0 : Hid (Below w.heap.size w W) := by show Below _ _ _; rw [← hW]; exact al (Below.refl _ _) _
  obtain ⟨s, hS⟩ : ∃ s, w.heap.size = s := ⟨_, rfl⟩
  have Q : Hid (Vb W s #[.slice a0 n0 k0, .int .i64 H.pc, .slice a1 n1 k1, .bool H.halted, .bool H.waiting, .bool H.rung, .int .i64 H.done, .slice a2 n2 k2, .slice a3 n3 k3, .slice a4 n4 k4, .slice a5 n5 k5] 35) := by show Vb _ _ _ _; rw [← hW, ← hS]; exact Vb.new _ _ _
  go_enter Try.func25, Try.ntmps25
  go_wp2_with fail
  clear hW hS
  refine (s_faultC s _ _ _ _ H _ _ (HS.out.h.keep B0.out) (Q.out.cell 0 rfl) (Q.out.cell 1 rfl) (Q.out.cell 2 rfl) (Q.out.cell 6 rfl) (Q.out.cell 7 rfl) (Q.out.cell 8 rfl)).mono ?_
  rw [HX.out]
  rintro e y1 ⟨rfl, hy1⟩
  rw [hy1]
  clear hy1 y1
  by_cases h0 : x = 0
  · have X0 : Hid (x = 0) := h0
    have hx0 : (x != 0) = false := by simp [h0]
    clear h0
    have q9 := Q.out.cell 9 rfl
    go_wp2_with fail
    clear q9
    refine (spec_fault _ ps 8 _ _ (HS.out.pl.keep B0.out) HL.out).mono ?_
    rw [HY.out]
    rintro e y1 ⟨rfl, hy1⟩
    rw [hy1]
    clear hy1 y1
    by_cases h1 : y = 0
    · have Y0 : Hid (y = 0) := h1
      have hy0 : (y != 0) = false := by simp [h1]
      clear h1
      have q10 := Q.out.cell 10 rfl
      have MF := spec_memFault _ zs _ _ (HS.out.mm.keep B0.out)
      rw [HMV.out] at MF
      by_cases h2 : mv = 0
      · have M0 : Hid (mv = 0) := h2
        have hm0 : (mv != 0) = false := by simp [h2]
        clear h2
        by_cases h3 : n5 = 64
        · have N0 : Hid (wholeS zs = true) := by show _ = _; unfold wholeS; rw [LZ.out, HMV.out, h3, M0.out]; rfl
          have h3i : (n5 : Int) = 64 := by omega
          have h3b : ((n5 : Int) != 64) = false := by simp [h3i]
          clear h3
          go_wp2_with (go_at_call 45; refine MF.mono ?_; rintro e y1 ⟨rfl, hy1⟩; rw [hy1]; clear hy1 y1)
          go_ret
          exact ⟨by rw [Z.out, if_pos X0.out, if_pos Y0.out, N0.out]; rfl, B0.out⟩
        · have N0 : Hid (wholeS zs = false) := by show _ = _; unfold wholeS; rw [LZ.out, decide_eq_false h3]; rfl
          have h3i : ¬ (n5 : Int) = 64 := by omega
          have h3b : ((n5 : Int) != 64) = true := by simpa using h3i
          clear h3
          go_wp2_with (go_at_call 45; refine MF.mono ?_; rintro e y1 ⟨rfl, hy1⟩; rw [hy1]; clear hy1 y1)
          go_ret
          exact ⟨by rw [Z.out, if_pos X0.out, if_pos Y0.out, N0.out]; rfl, B0.out⟩
      · have M0 : Hid (wholeS zs = false) := by show _ = _; unfold wholeS; rw [HMV.out, decide_eq_false h2, Bool.and_false]
        have hm0 : (mv != 0) = true := by simp [h2]
        clear h2
        go_wp2_with (go_at_call 45; refine MF.mono ?_; rintro e y1 ⟨rfl, hy1⟩; rw [hy1]; clear hy1 y1)
        go_ret
        exact ⟨by rw [Z.out, if_pos X0.out, if_pos Y0.out, M0.out]; rfl, B0.out⟩
    · have Y0 : Hid (¬ y = 0) := h1
      have hy0 : (y != 0) = true := by simp [h1]
      clear h1
      go_wp2_with fail
      go_ret
      exact ⟨by rw [Z.out, if_pos X0.out, if_neg Y0.out]; rfl, B0.out⟩
  · have X0 : Hid (¬ x = 0) := h0
    have hx0 : (x != 0) = true := by simp [h0]
    clear h0
    go_wp2_with fail
    go_ret
    exact ⟨by rw [Z.out, if_neg X0.out]; rfl, B0.out⟩
end Go.Proofs.Ytijajemalokgjaa
