/- Texts of this seat, joined. -/
import Derived.Deep.CutRange
import Derived.Laws.ByValue
import Derived.Test.YtadkhognlapckaaGreatDoorQ13
import Derived.Test.YtadkhognlapckaaGreatDoorQ18
import Derived.Test.YtadkhognlapckaaGreatDoorQ22
import Derived.Test.YtadkhognlapckaaGreatDoorQ23
import Derived.Test.YtadkhognlapckaaGreatDoorQ30
import Derived.Test.YtadkhognlapckaaGreatDoorQ37
import Derived.Test.YtadkhognlapckaaGreatDoorQ44
namespace Go.Proofs.YtadkhognlapckaaGreatDoor
open Go.RowKit
set_option linter.unusedVariables false

def wholeS (ms : List Int) : Bool := decide (ms.length = 64) && decide (memV ms = 0)
def sfV (H : Ht) (ps : List (Int × Int)) (zs : List Int) : Int := if hfV H = 0 then (if pgsV ps 8 = 0 then (if wholeS zs = true then 0 else 1) else pgsV ps 8) else hfV H
theorem i_whole8 (v : Value) (ms : List Int) (b : Nat) (w : World) (h : Nums w b v ms) :
    Calls Tryz.prog 73 #[v, .int .i64 8] w fun e w' => e = .returned (.bool (wholeS ms)) ∧ w' = w := by
  obtain ⟨a, cap, rfl, l1, l2, hg⟩ := h.shape
  have HM : Hid (Nums w b _ ms) := h
  unfold wholeS
  have hl : (ms.length : Int) ≤ 9223372036854775807 := by unfold maxLen at l2; omega
  obtain ⟨n, hn⟩ : ∃ n, ms.length = n := ⟨_, rfl⟩
  rw [hn] at HM hl ⊢
  clear h l1 l2 hg
  by_cases h1 : n = 64
  · rw [decide_eq_true h1, Bool.true_and]
    have h1i : (n : Int) = 64 := by omega
    have HM2 : Hid (Nums w b (.slice a 64 cap) ms) := by rw [h1] at HM; exact HM
    subst h1
    clear hn h1i
    by_cases h2 : memV ms = 0
    · go_enter Tryz.func73, Tryz.ntmps73
      go_wp2_with (go_at_call 94; refine (impl_memFault _ ms b _ HM2.out).mono ?_; rintro e w ⟨rfl, rfl⟩; rw [h2])
      go_ret
      exact ⟨by first | rfl | simp [h2], rfl⟩
    · have h4 : decide (memV ms = 0) = false := decide_eq_false h2
      rw [h4]
      obtain ⟨mv, hmv⟩ : ∃ mv, memV ms = mv := ⟨_, rfl⟩
      rw [hmv] at h2
      have HMV : Hid (memV ms = mv) := hmv
      clear hmv h4
      have h5 : (mv == 0) = false := by simpa using h2
      go_enter Tryz.func73, Tryz.ntmps73
      go_wp2_with (go_at_call 94; refine (impl_memFault _ ms b _ HM2.out).mono ?_; rintro e w ⟨rfl, rfl⟩; rw [HMV.out])
      go_ret
      exact ⟨by first | rfl | simp [h5], rfl⟩
  · have h1i : ¬ (n : Int) = 64 := by omega
    rw [decide_eq_false h1, Bool.false_and]
    clear hn
    go_enter Tryz.func73, Tryz.ntmps73
    go_wp2_with fail
    go_ret
    exact ⟨by first | rfl | simp_all, rfl⟩
set_option maxRecDepth 20000 in
set_option maxHeartbeats 8000000 in
theorem i_soloFault (r c i o l m : Value) (H : Ht) (ps : List (Int × Int)) (zs : List Int) (b : Nat) (w : World) (h : Sm w b r c i o l m H ps zs) (hl : ps.length ≤ 1048576) :
    Calls Tryz.prog 37 #[.agg #[r, .int .i64 H.pc, c, .bool H.halted, .bool H.waiting, .bool H.rung, .int .i64 H.done, i, o, l, m]] w fun e w' => e = .returned (.int .i64 (sfV H ps zs)) ∧ Below w.heap.size w w' := by
  have HS : Hid (Sm w b r c i o l m H ps zs) := h
  have HL : Hid (ps.length ≤ 1048576) := hl
  obtain ⟨z, hz⟩ : ∃ z, sfV H ps zs = z := ⟨_, rfl⟩
  obtain ⟨x, hx⟩ : ∃ x, hfV H = x := ⟨_, rfl⟩
  obtain ⟨y, hy⟩ : ∃ y, pgsV ps 8 = y := ⟨_, rfl⟩
  rw [hz]
  have Z : Hid (z = if x = 0 then (if y = 0 then (if wholeS zs = true then 0 else 1) else y) else x) := by show _ = _; rw [← hz, ← hx, ← hy]; rfl
  have HX : Hid (hfV H = x) := hx
  have HY : Hid (pgsV ps 8 = y) := hy
  clear hz hx hy
  clear hl
  obtain ⟨a0, k0, e0, _⟩ := h.h.r.shape
  obtain ⟨a1, k1, e1, _⟩ := h.h.c.shape
  obtain ⟨a2, k2, e2, _⟩ := h.h.i.shape
  obtain ⟨a3, k3, e3, _⟩ := h.h.o.shape
  obtain ⟨a4, k4, e4, _⟩ := h.pl.shape
  obtain ⟨a5, k5, e5, _, l5, _⟩ := h.mm.shape
  clear h
  subst e0 e1 e2 e3 e4 e5
  generalize hn0 : H.regs.length = n0 at *
  generalize hn1 : H.csr.length = n1 at *
  generalize hn2 : H.inn.length = n2 at *
  generalize hn3 : H.out.length = n3 at *
  obtain ⟨n4, hn4⟩ : ∃ n, ps.length = n := ⟨_, rfl⟩
  rw [hn4] at HS ⊢
  obtain ⟨n5, hn5⟩ : ∃ n, zs.length = n := ⟨_, rfl⟩
  have LZ : Hid (zs.length = n5) := hn5
  rw [hn5] at HS ⊢
  have l5i : (n5 : Int) ≤ 9223372036854775807 := by have := HS.out.mm.lens; unfold maxLen at this; omega
  clear hn0 hn1 hn2 hn3 hn4 hn5 l5
  generalize hW : w.alloc (.cells #[.slice a0 n0 k0, .int .i64 H.pc, .slice a1 n1 k1, .bool H.halted, .bool H.waiting, .bool H.rung, .int .i64 H.done, .slice a2 n2 k2, .slice a3 n3 k3, .slice a4 n4 k4, .slice a5 n5 k5] 50) = W
  have B0 : Hid (Below w.heap.size w W) := by show Below _ _ _; rw [← hW]; exact al (Below.refl _ _) _
  obtain ⟨s, hS⟩ : ∃ s, w.heap.size = s := ⟨_, rfl⟩
  have Q : Hid (Vb W s #[.slice a0 n0 k0, .int .i64 H.pc, .slice a1 n1 k1, .bool H.halted, .bool H.waiting, .bool H.rung, .int .i64 H.done, .slice a2 n2 k2, .slice a3 n3 k3, .slice a4 n4 k4, .slice a5 n5 k5] 50) := by show Vb _ _ _ _; rw [← hW, ← hS]; exact Vb.new _ _ _
  have q0 := Q.out.cell 0 rfl
  have q1 := Q.out.cell 1 rfl
  have q2 := Q.out.cell 2 rfl
  have q3 := Q.out.cell 3 rfl
  have q4 := Q.out.cell 4 rfl
  have q5 := Q.out.cell 5 rfl
  have q6 := Q.out.cell 6 rfl
  have q7 := Q.out.cell 7 rfl
  have q8 := Q.out.cell 8 rfl
  go_enter Tryz.func37, Tryz.ntmps37
  go_wp2_with fail
  clear hW hS q0 q1 q2 q3 q4 q5 q6 q7 q8
  refine (i_fault _ _ _ _ H _ _ (HS.out.h.keep B0.out)).mono ?_
  rw [HX.out]
  rintro e w1 ⟨rfl, b1⟩
  have B1 : Hid (Below w.heap.size w w1) := on B0.out b1
  have Q1 : Hid (Vb w1 s #[.slice a0 n0 k0, .int .i64 H.pc, .slice a1 n1 k1, .bool H.halted, .bool H.waiting, .bool H.rung, .int .i64 H.done, .slice a2 n2 k2, .slice a3 n3 k3, .slice a4 n4 k4, .slice a5 n5 k5] 50) := Q.out.keep b1
  clear b1 Q B0
  by_cases h0 : x = 0
  · have X0 : Hid (x = 0) := h0
    have hx0 : (x != 0) = false := by simp [h0]
    clear h0
    have q9 := Q1.out.cell 9 rfl
    go_wp2_with fail
    clear q9
    refine (impl_fault _ ps 8 _ _ (HS.out.pl.keep B1.out) HL.out).mono ?_
    rw [HY.out]
    rintro e w2 ⟨rfl, b2⟩
    have B2 : Hid (Below w.heap.size w w2) := on B1.out b2
    have Q2 : Hid (Vb w2 s #[.slice a0 n0 k0, .int .i64 H.pc, .slice a1 n1 k1, .bool H.halted, .bool H.waiting, .bool H.rung, .int .i64 H.done, .slice a2 n2 k2, .slice a3 n3 k3, .slice a4 n4 k4, .slice a5 n5 k5] 50) := Q1.out.keep b2
    clear b2 Q1
    by_cases h1 : y = 0
    · have Y0 : Hid (y = 0) := h1
      have hy0 : (y != 0) = false := by simp [h1]
      clear h1
      have q10 := Q2.out.cell 10 rfl
      go_wp2_with fail
      clear q10
      refine (i_whole8 _ zs _ _ (HS.out.mm.keep B2.out)).mono ?_
      rintro e y2 ⟨rfl, hy2⟩
      rw [hy2]
      clear hy2 y2
      cases hw : wholeS zs with
      | true =>
        go_wp2_with fail
        go_ret
        exact ⟨by rw [Z.out, if_pos X0.out, if_pos Y0.out, hw]; rfl, B2.out⟩
      | false =>
        go_wp2_with fail
        go_ret
        exact ⟨by rw [Z.out, if_pos X0.out, if_pos Y0.out, hw]; rfl, B2.out⟩
    · have Y0 : Hid (¬ y = 0) := h1
      have hy0 : (y != 0) = true := by simp [h1]
      clear h1
      go_wp2_with fail
      go_ret
      exact ⟨by rw [Z.out, if_pos X0.out, if_neg Y0.out]; rfl, B2.out⟩
  · have X0 : Hid (¬ x = 0) := h0
    have hx0 : (x != 0) = true := by simp [h0]
    clear h0
    go_wp2_with fail
    go_ret
    exact ⟨by rw [Z.out, if_neg X0.out]; rfl, B1.out⟩
set_option maxRecDepth 20000 in
set_option maxHeartbeats 8000000 in
theorem s_soloFault (r c i o l m : Value) (H : Ht) (ps : List (Int × Int)) (zs : List Int) (b : Nat) (w : World) (h : Sm w b r c i o l m H ps zs) (hl : ps.length ≤ 1048576) :
    Calls Tryz.prog 25 #[.agg #[r, .int .i64 H.pc, c, .bool H.halted, .bool H.waiting, .bool H.rung, .int .i64 H.done, i, o, l, m]] w fun e w' => e = .returned (.int .i64 (sfV H ps zs)) ∧ Below w.heap.size w w' := by
  have HS : Hid (Sm w b r c i o l m H ps zs) := h
  have HL : Hid (ps.length ≤ 1048576) := hl
  obtain ⟨z, hz⟩ : ∃ z, sfV H ps zs = z := ⟨_, rfl⟩
  obtain ⟨x, hx⟩ : ∃ x, hfV H = x := ⟨_, rfl⟩
  obtain ⟨y, hy⟩ : ∃ y, pgsV ps 8 = y := ⟨_, rfl⟩
  rw [hz]
  have Z : Hid (z = if x = 0 then (if y = 0 then (if wholeS zs = true then 0 else 1) else y) else x) := by show _ = _; rw [← hz, ← hx, ← hy]; rfl
  have HX : Hid (hfV H = x) := hx
  have HY : Hid (pgsV ps 8 = y) := hy
  clear hz hx hy
  obtain ⟨mv, hmv⟩ : ∃ v, memV zs = v := ⟨_, rfl⟩
  have HMV : Hid (memV zs = mv) := hmv
  clear hl hmv
  obtain ⟨a0, k0, e0, _⟩ := h.h.r.shape
  obtain ⟨a1, k1, e1, _⟩ := h.h.c.shape
  obtain ⟨a2, k2, e2, _⟩ := h.h.i.shape
  obtain ⟨a3, k3, e3, _⟩ := h.h.o.shape
  obtain ⟨a4, k4, e4, _⟩ := h.pl.shape
  obtain ⟨a5, k5, e5, _, l5, _⟩ := h.mm.shape
  clear h
  subst e0 e1 e2 e3 e4 e5
  generalize hn0 : H.regs.length = n0 at *
  generalize hn1 : H.csr.length = n1 at *
  generalize hn2 : H.inn.length = n2 at *
  generalize hn3 : H.out.length = n3 at *
  obtain ⟨n4, hn4⟩ : ∃ n, ps.length = n := ⟨_, rfl⟩
  rw [hn4] at HS ⊢
  obtain ⟨n5, hn5⟩ : ∃ n, zs.length = n := ⟨_, rfl⟩
  have LZ : Hid (zs.length = n5) := hn5
  rw [hn5] at HS ⊢
  have l5i : (n5 : Int) ≤ 9223372036854775807 := by have := HS.out.mm.lens; unfold maxLen at this; omega
  clear hn0 hn1 hn2 hn3 hn4 hn5 l5
  generalize hW : w.alloc (.cells #[.slice a0 n0 k0, .int .i64 H.pc, .slice a1 n1 k1, .bool H.halted, .bool H.waiting, .bool H.rung, .int .i64 H.done, .slice a2 n2 k2, .slice a3 n3 k3, .slice a4 n4 k4, .slice a5 n5 k5] 50) = W
  have B0 : Hid (Below w.heap.size w W) := by show Below _ _ _; rw [← hW]; exact al (Below.refl _ _) _
  obtain ⟨s, hS⟩ : ∃ s, w.heap.size = s := ⟨_, rfl⟩
  have Q : Hid (Vb W s #[.slice a0 n0 k0, .int .i64 H.pc, .slice a1 n1 k1, .bool H.halted, .bool H.waiting, .bool H.rung, .int .i64 H.done, .slice a2 n2 k2, .slice a3 n3 k3, .slice a4 n4 k4, .slice a5 n5 k5] 50) := by show Vb _ _ _ _; rw [← hW, ← hS]; exact Vb.new _ _ _
  go_enter Tryz.func25, Tryz.ntmps25
  go_wp2_with fail
  clear hW hS
  refine (s_faultC s _ _ _ _ H _ _ (HS.out.h.keep B0.out) (Q.out.cell 0 rfl) (Q.out.cell 1 rfl) (Q.out.cell 2 rfl) (Q.out.cell 6 rfl) (Q.out.cell 7 rfl) (Q.out.cell 8 rfl)).mono ?_
  rw [HX.out]
  rintro e y1 ⟨rfl, hy1⟩
  rw [hy1]
  clear hy1 y1
  by_cases h0 : x = 0
  · have X0 : Hid (x = 0) := h0
    have hx0 : (x != 0) = false := by simp [h0]
    clear h0
    have q9 := Q.out.cell 9 rfl
    go_wp2_with fail
    clear q9
    refine (spec_fault _ ps 8 _ _ (HS.out.pl.keep B0.out) HL.out).mono ?_
    rw [HY.out]
    rintro e y1 ⟨rfl, hy1⟩
    rw [hy1]
    clear hy1 y1
    by_cases h1 : y = 0
    · have Y0 : Hid (y = 0) := h1
      have hy0 : (y != 0) = false := by simp [h1]
      clear h1
      have q10 := Q.out.cell 10 rfl
      have MF := spec_memFault _ zs _ _ (HS.out.mm.keep B0.out)
      rw [HMV.out] at MF
      by_cases h2 : mv = 0
      · have M0 : Hid (mv = 0) := h2
        have hm0 : (mv != 0) = false := by simp [h2]
        clear h2
        by_cases h3 : n5 = 64
        · have N0 : Hid (wholeS zs = true) := by show _ = _; unfold wholeS; rw [LZ.out, HMV.out, h3, M0.out]; rfl
          have h3i : (n5 : Int) = 64 := by omega
          have h3b : ((n5 : Int) != 64) = false := by simp [h3i]
          clear h3
          go_wp2_with (go_at_call 64; refine MF.mono ?_; rintro e y1 ⟨rfl, hy1⟩; rw [hy1]; clear hy1 y1)
          go_ret
          exact ⟨by rw [Z.out, if_pos X0.out, if_pos Y0.out, N0.out]; rfl, B0.out⟩
        · have N0 : Hid (wholeS zs = false) := by show _ = _; unfold wholeS; rw [LZ.out, decide_eq_false h3]; rfl
          have h3i : ¬ (n5 : Int) = 64 := by omega
          have h3b : ((n5 : Int) != 64) = true := by simpa using h3i
          clear h3
          go_wp2_with (go_at_call 64; refine MF.mono ?_; rintro e y1 ⟨rfl, hy1⟩; rw [hy1]; clear hy1 y1)
          go_ret
          exact ⟨by rw [Z.out, if_pos X0.out, if_pos Y0.out, N0.out]; rfl, B0.out⟩
      · have M0 : Hid (wholeS zs = false) := by show _ = _; unfold wholeS; rw [HMV.out, decide_eq_false h2, Bool.and_false]
        have hm0 : (mv != 0) = true := by simp [h2]
        clear h2
        go_wp2_with (go_at_call 64; refine MF.mono ?_; rintro e y1 ⟨rfl, hy1⟩; rw [hy1]; clear hy1 y1)
        go_ret
        exact ⟨by rw [Z.out, if_pos X0.out, if_pos Y0.out, M0.out]; rfl, B0.out⟩
    · have Y0 : Hid (¬ y = 0) := h1
      have hy0 : (y != 0) = true := by simp [h1]
      clear h1
      go_wp2_with fail
      go_ret
      exact ⟨by rw [Z.out, if_pos X0.out, if_neg Y0.out]; rfl, B0.out⟩
  · have X0 : Hid (¬ x = 0) := h0
    have hx0 : (x != 0) = true := by simp [h0]
    clear h0
    go_wp2_with fail
    go_ret
    exact ⟨by rw [Z.out, if_neg X0.out]; rfl, B0.out⟩
end Go.Proofs.YtadkhognlapckaaGreatDoor
namespace Go.Proofs.YtadkhognlapckaaGreatDoor
open Go.RowKit
set_option linter.unusedVariables false

/-- The pages of lanes from a guest: the host's numbers, or the guest's. -/
def gvS (pg : Bool) (l : Ln) : Int := if pg then l.pg else l.af
def gvL (pg : Bool) (g : Int) (ls : List Ln) : List Int := ls.flatMap fun l => if l.fr = g then [gvS pg l] else []
theorem gv_take (pg : Bool) (g : Int) (ls : List Ln) (j : Nat) (h : j < ls.length) : gvL pg g (ls.take (j + 1)) = gvL pg g (ls.take j) ++ (if (ls.getD j lz).fr = g then [gvS pg (ls.getD j lz)] else []) := by
  unfold gvL
  rw [take_succ_getD ls lz j h, List.flatMap_append]
  simp
theorem gv_len (pg : Bool) (g : Int) (ls : List Ln) : (gvL pg g ls).length ≤ ls.length := by
  induction ls with
  | nil => simp [gvL]
  | cons l t ih =>
    unfold gvL at *
    rw [List.flatMap_cons, List.length_append, List.length_cons]
    split <;> simp only [List.length_cons, List.length_nil] <;> omega
theorem i_cloS (L : Ln) (w : World) : Calls Tryz.prog 39 #[.agg #[.int .i64 L.fr, .int .i64 L.dst, .int .i64 L.pg, .int .i64 L.af, .int .i64 L.tt]] w fun e w' => e = .returned (.int .i64 L.af) ∧ Below w.heap.size w w' := by
  go_enter Tryz.func39, Tryz.ntmps39
  go_wp2_with fail
  go_ret
  exact ⟨rfl, al (Below.refl _ _) _⟩
set_option maxRecDepth 20000 in
set_option maxHeartbeats 8000000 in
theorem i_givenS (a0 a1 a2 a3 : Option Addr) (n0 c0 n1 c1 n2 c2 n3 c3 : Nat) (P : Plc) (gu : Int) (w : World) (h : Pl w a0 n0 c0 a1 n1 c1 a2 n2 c2 a3 n3 c3 P) (hl : P.lanes.length ≤ 100) :
    Calls Tryz.prog 38 #[.agg #[.slice a0 n0 c0, .slice a1 n1 c1, .slice a2 n2 c2, .slice a3 n3 c3], .int .i64 gu, .func (.func 39) #[] #[]] w fun e w' => ∃ v, e = .returned v ∧ Nums w' w.heap.size v (gvL false gu P.lanes) ∧ Below w.heap.size w w' := by
  generalize hW : w.alloc (.cells #[.slice a0 n0 c0, .slice a1 n1 c1, .slice a2 n2 c2, .slice a3 n3 c3] 46) = W
  have B0 : Hid (Below w.heap.size w W) := by show Below _ _ _; rw [← hW]; exact al (Below.refl _ _) _
  obtain ⟨s, hS⟩ : ∃ s, w.heap.size = s := ⟨_, rfl⟩
  have Q : Hid (Vb W s #[.slice a0 n0 c0, .slice a1 n1 c1, .slice a2 n2 c2, .slice a3 n3 c3] 46) := by show Vb _ _ _ _; rw [← hW, ← hS]; exact Vb.new _ _ _
  have HP : Hid (Pl W a0 n0 c0 a1 n1 c1 a2 n2 c2 a3 n3 c3 P) := h.stay B0.out
  have HL : Hid (n1 = P.lanes.length ∧ n1 ≤ 100) := ⟨h.lanes.len, by have := h.lanes.len; omega⟩
  have hnI : (n1 : Int) ≤ 100 := by have := HL.out; omega
  clear h hl
  have q1 := Q.out.cell 1 rfl
  go_enter Tryz.func38, Tryz.ntmps38
  go_wp2_with fail
  clear hW hS q1
  go_loopw [7, 9, 13] (fun y _ c wr => ∃ j : Nat, j ≤ n1 ∧ c = .int .i64 j ∧ Nums wr W.heap.size y (gvL false gu (P.lanes.take j)) ∧ Below W.heap.size W wr) (fun _ _ c _ => n1 - (intOf c).toNat)
  case atStart => exact ⟨0, Nat.zero_le _, rfl, Nums.nil _ _, Below.refl _ _⟩
  case round =>
    obtain ⟨j, hj, rfl, hN, hB⟩ := hrel
    have HN : Hid (Nums wr W.heap.size _ (gvL false gu (P.lanes.take j))) := hN
    have HB : Hid (Below W.heap.size W wr) := hB
    obtain ⟨ya, yc, hy, _, _, _⟩ := hN.shape
    have HLN : Hid ((gvL false gu (P.lanes.take j)).length ≤ 100) := by show _ ≤ _; have := gv_len false gu (P.lanes.take j); rw [List.length_take] at this; have := HL.out; omega
    obtain ⟨un, hun⟩ : ∃ un, (gvL false gu (P.lanes.take j)).length = un := ⟨_, rfl⟩
    rw [hun] at hy
    subst hy
    clear hN hun
    by_cases hlt : j < n1
    · obtain ⟨x, rfl, k0, k1, k2, k3, k4⟩ := (HP.out.lanes.stay hB).at j hlt
      have hJ : (j : Int) < (n1 : Int) := by omega
      have HLT : Hid (j < n1) := hlt
      have TK : Hid (_ = _) := gv_take false gu P.lanes j (by have := HL.out; omega)
      obtain ⟨L, hL⟩ : ∃ L, P.lanes.getD j lz = L := ⟨_, rfl⟩
      rw [hL] at k0 k1 k2 k3 k4 TK
      have SZ : Hid (W.heap.size ≤ wr.heap.size) := hB.size
      clear hL hlt hB
      by_cases he : L.fr = gu
      · have S2 : Hid (gvL false gu (P.lanes.take (j + 1)) = gvL false gu (P.lanes.take j) ++ [gvS false L]) := by show _ = _; rw [TK.out, if_pos he]
        clear TK
        subst he
        go_upto_region 5 with fail
        generalize hW2 : wr.alloc (.cells #[.int .i64 L.fr, .int .i64 L.dst, .int .i64 L.pg, .int .i64 L.af, .int .i64 L.tt] 82) = W2
        have V2 : Hid (Vb W2 wr.heap.size #[.int .i64 L.fr, .int .i64 L.dst, .int .i64 L.pg, .int .i64 L.af, .int .i64 L.tt] 82) := by show Vb _ _ _ _; rw [← hW2]; exact Vb.new _ _ _
        have B2 : Hid (Below W.heap.size W W2) := by show Below _ _ _; rw [← hW2]; exact al HB.out _
        have N2 : Hid (Nums W2 W.heap.size (.slice ya un yc) (gvL false L.fr (P.lanes.take j))) := by show Nums _ _ _ _; rw [← hW2]; exact HN.out.keep (al (Below.refl _ _) _)
        clear hW2 k0 k1 k2 k3 k4
        generalize wr.heap.size = bx at *
        have v0 := V2.out.cell 0 rfl
        have v1 := V2.out.cell 1 rfl
        have v2 := V2.out.cell 2 rfl
        have v3 := V2.out.cell 3 rfl
        have v4 := V2.out.cell 4 rfl
        go_wp2_with fail
        refine (i_cloS L W2).mono ?_
        rintro e w3 ⟨rfl, b3⟩
        have B3 : Hid (Below W.heap.size W w3) := on B2.out b3
        have N3 : Hid (Nums w3 W.heap.size (.slice ya un yc) (gvL false L.fr (P.lanes.take j))) := N2.out.keep b3
        have Z3 : Hid (W.heap.size ≤ w3.heap.size) := (on B2.out b3).size
        clear b3 v0 v1 v2 v3 v4
        have S3 : Hid (gvL false L.fr (P.lanes.take (j + 1)) = gvL false L.fr (P.lanes.take j) ++ [L.af]) := S2.out
        clear S2
        generalize L.af = z at *
        go_wp2_with (at_builtin; refine wp_appn _ rfl _ _ rfl W.heap.size _ _ rfl (N3.out.keep (al (Below.refl _ _) _)) w3.heap.size 1 1 [z] rfl rfl (one_at (cell_new rfl)) (by have := HLN.out; omega) (by have := Z3.out; simp; omega) ?_; intro v' w' hN' hG')
        have N' : Hid (Nums w' W.heap.size v' (gvL false L.fr (P.lanes.take j) ++ [z])) := hN'
        have B' : Hid (Below W.heap.size W w') := (al B3.out _).grown hG' (by have := Z3.out; simp; omega) (fun k hk => (N3.out.lt k hk).1)
        clear hN' hG'
        go_wp2_with fail
        go_roundw
        case rel => exact ⟨j + 1, by have := HLT.out; omega, by go_num, by rw [S3.out]; exact N'.out, B'.out⟩
        case measure => have := HLT.out; simp [intOf]; omega
      · have S2 : Hid (gvL false gu (P.lanes.take (j + 1)) = gvL false gu (P.lanes.take j)) := by show _ = _; rw [TK.out, if_neg he]; simp
        clear TK
        go_wp2_with fail
        go_roundw
        case rel => exact ⟨j + 1, by have := HLT.out; omega, by go_num, by rw [S2.out]; exact HN.out.keep (al (Below.refl _ _) _), al HB.out _⟩
        case measure => have := HLT.out; simp [intOf]; omega
    · have hJ : ¬ (j : Int) < (n1 : Int) := by omega
      have ET : Hid (gvL false gu (P.lanes.take j) = gvL false gu P.lanes) := by show _ = _; rw [List.take_of_length_le (by have := HL.out; omega)]
      clear hlt hB
      go_wp2_with fail
      go_ret
      exact ⟨_, rfl, by rw [← ET.out]; exact HN.out.mono B0.out.size, on B0.out HB.out⟩
set_option maxRecDepth 20000 in
set_option maxHeartbeats 8000000 in
theorem s_gives (pg : Bool) (q : Nat) (gu : Int) (P : Plc) (w : World) (h : PolAt w q P) (hl : P.lanes.length ≤ 100) :
    Calls Tryz.prog 28 #[.pointer (some ⟨q, 0, none⟩), .int .i64 gu, .bool pg] w fun e w' => ∃ v, e = .returned v ∧ Nums w' w.heap.size v (gvL pg gu P.lanes) ∧ Below w.heap.size w w' := by
  obtain ⟨a0, n0, c0, a1, n1, c1, a2, n2, c2, a3, n3, c3, h0, h1, h2, h3, h4⟩ := h
  have HO : Hid (IsLanes w a1 n1 c1 P.lanes) := h4.lanes
  have H1 : Hid (w.cell? ⟨q, 1, none⟩ = some (.slice a1 n1 c1)) := h1
  have HL : Hid (n1 = P.lanes.length ∧ n1 ≤ 100) := ⟨h4.lanes.len, by have := h4.lanes.len; omega⟩
  have hnI : (n1 : Int) ≤ 100 := by have := HL.out; omega
  clear h0 h1 h2 h3 h4 hl
  go_enter Tryz.func28, Tryz.ntmps28
  go_wp2_with fail
  go_loopw [7, 8] (fun y c wr => ∃ j : Nat, j ≤ n1 ∧ c = .int .i64 j ∧ Nums wr w.heap.size y (gvL pg gu (P.lanes.take j)) ∧ Below w.heap.size w wr) (fun _ c _ => n1 - (intOf c).toNat)
  case atStart => exact ⟨0, Nat.zero_le _, rfl, World.ownsRow_lit w #[] 0 (Nat.le_refl _) (by decide) rfl, al (Below.refl _ _) _⟩
  case round =>
    obtain ⟨j, hj, rfl, hN, hB⟩ := hrel
    have HN : Hid (Nums wr w.heap.size _ (gvL pg gu (P.lanes.take j))) := hN
    have HB : Hid (Below w.heap.size w wr) := hB
    obtain ⟨ya, yc, hy, _, _, _⟩ := hN.shape
    have HLN : Hid ((gvL pg gu (P.lanes.take j)).length ≤ 100) := by show _ ≤ _; have := gv_len pg gu (P.lanes.take j); rw [List.length_take] at this; have := HL.out; omega
    obtain ⟨un, hun⟩ : ∃ un, (gvL pg gu (P.lanes.take j)).length = un := ⟨_, rfl⟩
    rw [hun] at hy
    subst hy
    have q1 := cell_keep hB H1.out
    clear hN hun
    by_cases hlt : j < n1
    · obtain ⟨x, rfl, k0, k1, k2, k3, k4⟩ := (HO.out.stay hB).at j hlt
      have hJ : (j : Int) < (n1 : Int) := by omega
      have HLT : Hid (j < n1) := hlt
      have TK : Hid (_ = _) := gv_take pg gu P.lanes j (by have := HL.out; omega)
      obtain ⟨L, hL⟩ : ∃ L, P.lanes.getD j lz = L := ⟨_, rfl⟩
      rw [hL] at k0 k1 k2 k3 k4 TK
      have SZ : Hid (w.heap.size ≤ wr.heap.size) := hB.size
      clear hL hlt hB
      by_cases he : L.fr = gu
      · have S2 : Hid (gvL pg gu (P.lanes.take (j + 1)) = gvL pg gu (P.lanes.take j) ++ [gvS pg L]) := by show _ = _; rw [TK.out, if_pos he]
        have he2 : (L.fr != gu) = false := by simp [he]
        clear TK
        cases pg
        · have S3 : Hid (gvL false gu (P.lanes.take (j + 1)) = gvL false gu (P.lanes.take j) ++ [L.af]) := S2.out
          go_wp2_with (at_builtin; refine wp_appn _ rfl _ _ rfl w.heap.size _ _ rfl (HN.out.keep (al (Below.refl _ _) _)) wr.heap.size 1 1 [L.af] rfl rfl (one_at (cell_new rfl)) (by have := HLN.out; omega) (by have := SZ.out; simp; omega) ?_; intro v' w' hN' hG')
          have N' : Hid (Nums w' w.heap.size v' (gvL false gu (P.lanes.take j) ++ [L.af])) := hN'
          have B' : Hid (Below w.heap.size w w') := (al HB.out _).grown hG' (by have := SZ.out; simp; omega) (fun k hk => (HN.out.lt k hk).1)
          clear hN' hG'
          go_wp2_with fail
          go_roundw
          case rel => exact ⟨j + 1, by have := HLT.out; omega, by go_num, by rw [S3.out]; exact N'.out, B'.out⟩
          case measure => have := HLT.out; simp [intOf]; omega
        · have S3 : Hid (gvL true gu (P.lanes.take (j + 1)) = gvL true gu (P.lanes.take j) ++ [L.pg]) := S2.out
          go_wp2_with (at_builtin; refine wp_appn _ rfl _ _ rfl w.heap.size _ _ rfl (HN.out.keep (al (Below.refl _ _) _)) wr.heap.size 1 1 [L.pg] rfl rfl (one_at (cell_new rfl)) (by have := HLN.out; omega) (by have := SZ.out; simp; omega) ?_; intro v' w' hN' hG')
          have N' : Hid (Nums w' w.heap.size v' (gvL true gu (P.lanes.take j) ++ [L.pg])) := hN'
          have B' : Hid (Below w.heap.size w w') := (al HB.out _).grown hG' (by have := SZ.out; simp; omega) (fun k hk => (HN.out.lt k hk).1)
          clear hN' hG'
          go_wp2_with fail
          go_roundw
          case rel => exact ⟨j + 1, by have := HLT.out; omega, by go_num, by rw [S3.out]; exact N'.out, B'.out⟩
          case measure => have := HLT.out; simp [intOf]; omega
      · have S2 : Hid (gvL pg gu (P.lanes.take (j + 1)) = gvL pg gu (P.lanes.take j)) := by show _ = _; rw [TK.out, if_neg he]; simp
        have he2 : (L.fr != gu) = true := by simp [he]
        clear TK
        go_wp2_with fail
        go_roundw
        case rel => exact ⟨j + 1, by have := HLT.out; omega, by go_num, by rw [S2.out]; exact HN.out, HB.out⟩
        case measure => have := HLT.out; simp [intOf]; omega
    · have hJ : ¬ (j : Int) < (n1 : Int) := by omega
      have ET : Hid (gvL pg gu (P.lanes.take j) = gvL pg gu P.lanes) := by show _ = _; rw [List.take_of_length_le (by have := HL.out; omega)]
      clear hlt hB
      go_wp2_with fail
      go_ret
      exact ⟨_, rfl, by rw [← ET.out]; exact HN.out, HB.out⟩
end Go.Proofs.YtadkhognlapckaaGreatDoor
namespace Go.Proofs.YtadkhognlapckaaGreatDoor
open Go.RowKit
set_option linter.unusedVariables false

theorem vm_void (w : World) (base : Nat) : Vm w base (.slice none 0 0) (.slice none 0 0) (.slice none 0 0) (.slice none 0 0) (.slice none 0 0) (.slice none 0 0) voidH [] [] :=
  ⟨⟨Nums.nil _ _, Nums.nil _ _, Nums.nil _ _, Nums.nil _ _⟩, ⟨.inl rfl, .inl rfl, .inl rfl, .inl rfl, .inl rfl, .inl rfl⟩, Nums.nil _ _, Nums.nil _ _, .inl rfl, .inl rfl, .inl rfl, .inl rfl, .inl rfl, .inl rfl, .inl rfl, .inl rfl, .inl rfl⟩
theorem sv_some {w : World} {base n cap : Nat} {a : Option Addr} {zs : List Int} (h : Nums w base (.slice a n cap) zs) (hz : 0 < zs.length) : ∃ gm, a = some ⟨gm, 0, none⟩ := by
  obtain ⟨a', cap', e, _, _, hg⟩ := h.shape
  cases e
  exact hg hz
theorem twelveV {v : World} {q : Nat} {t : TypeId} {z0 z1 z2 z3 z4 z5 z6 z7 z8 z9 z10 z11 : Value} (h : Vb v q #[z0, z1, z2, z3, z4, z5, z6, z7, z8, z9, z10, z11] t) (u0 u1 u2 u3 u4 u5 u6 u7 u8 u9 u10 u11 : Value) :
    Vb ((((((((((((v.setCell ⟨q, 0, none⟩ u0).setCell ⟨q, 1, none⟩ u1).setCell ⟨q, 2, none⟩ u2).setCell ⟨q, 3, none⟩ u3).setCell ⟨q, 4, none⟩ u4).setCell ⟨q, 5, none⟩ u5).setCell ⟨q, 6, none⟩ u6).setCell ⟨q, 7, none⟩ u7).setCell ⟨q, 8, none⟩ u8).setCell ⟨q, 9, none⟩ u9).setCell ⟨q, 10, none⟩ u10).setCell ⟨q, 11, none⟩ u11) q #[u0, u1, u2, u3, u4, u5, u6, u7, u8, u9, u10, u11] t ∧ Mq (fun k => k = q) v ((((((((((((v.setCell ⟨q, 0, none⟩ u0).setCell ⟨q, 1, none⟩ u1).setCell ⟨q, 2, none⟩ u2).setCell ⟨q, 3, none⟩ u3).setCell ⟨q, 4, none⟩ u4).setCell ⟨q, 5, none⟩ u5).setCell ⟨q, 6, none⟩ u6).setCell ⟨q, 7, none⟩ u7).setCell ⟨q, 8, none⟩ u8).setCell ⟨q, 9, none⟩ u9).setCell ⟨q, 10, none⟩ u10).setCell ⟨q, 11, none⟩ u11) := by
  have h0 : Vb (v.setCell ⟨q, 0, none⟩ u0) q #[u0, z1, z2, z3, z4, z5, z6, z7, z8, z9, z10, z11] t := h.set 0 u0
  have h1 : Vb ((v.setCell ⟨q, 0, none⟩ u0).setCell ⟨q, 1, none⟩ u1) q #[u0, u1, z2, z3, z4, z5, z6, z7, z8, z9, z10, z11] t := h0.set 1 u1
  have h2 : Vb (((v.setCell ⟨q, 0, none⟩ u0).setCell ⟨q, 1, none⟩ u1).setCell ⟨q, 2, none⟩ u2) q #[u0, u1, u2, z3, z4, z5, z6, z7, z8, z9, z10, z11] t := h1.set 2 u2
  have h3 : Vb ((((v.setCell ⟨q, 0, none⟩ u0).setCell ⟨q, 1, none⟩ u1).setCell ⟨q, 2, none⟩ u2).setCell ⟨q, 3, none⟩ u3) q #[u0, u1, u2, u3, z4, z5, z6, z7, z8, z9, z10, z11] t := h2.set 3 u3
  have h4 : Vb (((((v.setCell ⟨q, 0, none⟩ u0).setCell ⟨q, 1, none⟩ u1).setCell ⟨q, 2, none⟩ u2).setCell ⟨q, 3, none⟩ u3).setCell ⟨q, 4, none⟩ u4) q #[u0, u1, u2, u3, u4, z5, z6, z7, z8, z9, z10, z11] t := h3.set 4 u4
  have h5 : Vb ((((((v.setCell ⟨q, 0, none⟩ u0).setCell ⟨q, 1, none⟩ u1).setCell ⟨q, 2, none⟩ u2).setCell ⟨q, 3, none⟩ u3).setCell ⟨q, 4, none⟩ u4).setCell ⟨q, 5, none⟩ u5) q #[u0, u1, u2, u3, u4, u5, z6, z7, z8, z9, z10, z11] t := h4.set 5 u5
  have h6 : Vb (((((((v.setCell ⟨q, 0, none⟩ u0).setCell ⟨q, 1, none⟩ u1).setCell ⟨q, 2, none⟩ u2).setCell ⟨q, 3, none⟩ u3).setCell ⟨q, 4, none⟩ u4).setCell ⟨q, 5, none⟩ u5).setCell ⟨q, 6, none⟩ u6) q #[u0, u1, u2, u3, u4, u5, u6, z7, z8, z9, z10, z11] t := h5.set 6 u6
  have h7 : Vb ((((((((v.setCell ⟨q, 0, none⟩ u0).setCell ⟨q, 1, none⟩ u1).setCell ⟨q, 2, none⟩ u2).setCell ⟨q, 3, none⟩ u3).setCell ⟨q, 4, none⟩ u4).setCell ⟨q, 5, none⟩ u5).setCell ⟨q, 6, none⟩ u6).setCell ⟨q, 7, none⟩ u7) q #[u0, u1, u2, u3, u4, u5, u6, u7, z8, z9, z10, z11] t := h6.set 7 u7
  have h8 : Vb (((((((((v.setCell ⟨q, 0, none⟩ u0).setCell ⟨q, 1, none⟩ u1).setCell ⟨q, 2, none⟩ u2).setCell ⟨q, 3, none⟩ u3).setCell ⟨q, 4, none⟩ u4).setCell ⟨q, 5, none⟩ u5).setCell ⟨q, 6, none⟩ u6).setCell ⟨q, 7, none⟩ u7).setCell ⟨q, 8, none⟩ u8) q #[u0, u1, u2, u3, u4, u5, u6, u7, u8, z9, z10, z11] t := h7.set 8 u8
  have h9 : Vb ((((((((((v.setCell ⟨q, 0, none⟩ u0).setCell ⟨q, 1, none⟩ u1).setCell ⟨q, 2, none⟩ u2).setCell ⟨q, 3, none⟩ u3).setCell ⟨q, 4, none⟩ u4).setCell ⟨q, 5, none⟩ u5).setCell ⟨q, 6, none⟩ u6).setCell ⟨q, 7, none⟩ u7).setCell ⟨q, 8, none⟩ u8).setCell ⟨q, 9, none⟩ u9) q #[u0, u1, u2, u3, u4, u5, u6, u7, u8, u9, z10, z11] t := h8.set 9 u9
  have h10 : Vb (((((((((((v.setCell ⟨q, 0, none⟩ u0).setCell ⟨q, 1, none⟩ u1).setCell ⟨q, 2, none⟩ u2).setCell ⟨q, 3, none⟩ u3).setCell ⟨q, 4, none⟩ u4).setCell ⟨q, 5, none⟩ u5).setCell ⟨q, 6, none⟩ u6).setCell ⟨q, 7, none⟩ u7).setCell ⟨q, 8, none⟩ u8).setCell ⟨q, 9, none⟩ u9).setCell ⟨q, 10, none⟩ u10) q #[u0, u1, u2, u3, u4, u5, u6, u7, u8, u9, u10, z11] t := h9.set 10 u10
  have h11 : Vb ((((((((((((v.setCell ⟨q, 0, none⟩ u0).setCell ⟨q, 1, none⟩ u1).setCell ⟨q, 2, none⟩ u2).setCell ⟨q, 3, none⟩ u3).setCell ⟨q, 4, none⟩ u4).setCell ⟨q, 5, none⟩ u5).setCell ⟨q, 6, none⟩ u6).setCell ⟨q, 7, none⟩ u7).setCell ⟨q, 8, none⟩ u8).setCell ⟨q, 9, none⟩ u9).setCell ⟨q, 10, none⟩ u10).setCell ⟨q, 11, none⟩ u11) q #[u0, u1, u2, u3, u4, u5, u6, u7, u8, u9, u10, u11] t := h10.set 11 u11
  exact ⟨h11, (((((((((((((Mq.refl (fun k => k = q) v).set ⟨q, 0, none⟩ u0 rfl).set ⟨q, 1, none⟩ u1 rfl).set ⟨q, 2, none⟩ u2 rfl).set ⟨q, 3, none⟩ u3 rfl).set ⟨q, 4, none⟩ u4 rfl).set ⟨q, 5, none⟩ u5 rfl).set ⟨q, 6, none⟩ u6 rfl).set ⟨q, 7, none⟩ u7 rfl).set ⟨q, 8, none⟩ u8 rfl).set ⟨q, 9, none⟩ u9 rfl).set ⟨q, 10, none⟩ u10 rfl).set ⟨q, 11, none⟩ u11 rfl)⟩
theorem Mk.mqv {lo hi : Nat} {w w' : World} (m : Mk lo hi w w') : Mq (fun k => lo ≤ k ∧ k < hi) w w' := ⟨m.os, m.tape, m.output, m.size, fun k hk hn => m.block k hk (by have : ¬ (lo ≤ k ∧ k < hi) := hn; omega)⟩
theorem vm_mqv {S : Nat → Prop} {w w' : World} {base : Nat} {r c i o l m : Value} {H : Ht} {ps : List Int} {zs : List Int} (s : Vm w base r c i o l m H ps zs) (g : Mq S w w') (hn : ∀ k, OwnV r c i o l m k → ¬ S k) : Vm w' base r c i o l m H ps zs :=
  ⟨g.hm s.h fun k e => hn k (.inl e), s.a, g.nums s.pl fun k e => hn k (.inr (.inl e)), g.nums s.mm fun k e => hn k (.inr (.inr e)), s.rl, s.cl, s.il, s.ol, s.lm, s.rm, s.cm, s.im, s.om⟩
theorem vm_own {w : World} {base : Nat} {r c i o l m : Value} {H : Ht} {ps : List Int} {zs : List Int} (s : Vm w base r c i o l m H ps zs) (k : Nat) (e : OwnV r c i o l m k) : base ≤ k ∧ k < w.heap.size := by
  rcases e with e | e | e
  · exact s.h.own k e
  · exact s.pl.lt k e
  · exact s.mm.lt k e
/-- The worlds behind W in which block q alone may have turned; its 12 cells are there. -/
def Sv12 (W : World) (q : Nat) (w' : World) : Prop := Mq (fun k => k = q) W w' ∧ w'.there q 0 12
theorem Sv12.step {W w w' : World} {q : Nat} (h : Sv12 W q w) (hq : q < W.heap.size) (b : Below w.heap.size w w') : Sv12 W q w' :=
  ⟨h.1.trans (Mq.of (below_grown b none) fun k e => by cases e), there_below h.2 (Nat.lt_of_lt_of_le hq h.1.size) b⟩
theorem Sv12.set {W w : World} {q : Nat} (h : Sv12 W q w) (vs : List Value) : Sv12 W q (w.setCells q 0 vs) := ⟨h.1.trans (mq_cells q vs w 0), World.there_setCells h.2 _ _ _⟩
end Go.Proofs.YtadkhognlapckaaGreatDoor
