/- SoloText of both. -/
import Derived.Test.YtcneipilhlcfkaaDoorStl
import Derived.Test.YtcneipilhlcfkaaDoorSts
namespace Go.Proofs.YtcneipilhlcfkaaDoor
open Go.RowKit
set_option linter.unusedVariables false

theorem stx_store (H : Ht) (xa : Option Addr) (xn xk : Nat) (ya : Option Addr) (yn yk : Nat) (w : World) : (storeCells ⟨w.heap.size, 0, none⟩ (mca H (.slice xa xn xk) (.slice ya yn yk)).toList 0).run Tryd.prog (w.alloc (.cells #[.int .i64 0, .int .i64 0, .int .i64 0, .int .i64 0, .int .i64 0, .int .i64 0, .int .i64 0, .int .i64 0, .int .i64 0, .int .i64 0, .int .i64 0, .int .i64 0, .int .i64 0, .int .i64 0, .int .i64 0, .int .i64 0, .int .i64 0, .int .i64 0, .int .i64 0, .int .i64 0, .int .i64 0, .int .i64 0, .int .i64 0, .int .i64 0, .int .i64 0, .int .i64 0, .int .i64 0, .int .i64 0, .bool false, .bool false, .bool false, .int .i64 0, .slice none 0 0, .slice none 0 0] 63)) = .ok () (w.alloc (.cells (mca H (.slice xa xn xk) (.slice ya yn yk)) 63)) :=
  run_storeCells_new (P := Tryd.prog) w 63 #[.int .i64 0, .int .i64 0, .int .i64 0, .int .i64 0, .int .i64 0, .int .i64 0, .int .i64 0, .int .i64 0, .int .i64 0, .int .i64 0, .int .i64 0, .int .i64 0, .int .i64 0, .int .i64 0, .int .i64 0, .int .i64 0, .int .i64 0, .int .i64 0, .int .i64 0, .int .i64 0, .int .i64 0, .int .i64 0, .int .i64 0, .int .i64 0, .int .i64 0, .int .i64 0, .int .i64 0, .int .i64 0, .bool false, .bool false, .bool false, .int .i64 0, .slice none 0 0, .slice none 0 0] (mca H (.slice xa xn xk) (.slice ya yn yk)) (by kernel_rfl) rfl (mca_one _ _ _ rfl rfl)
def stR (H : Ht) (ps : List (Int × Int)) (zs : List Int) : Int × List UInt8 := if sfV H ps zs = 0 then (0, textW H) else (sfV H ps zs, [])
theorem sf_hf {H : Ht} {ps : List (Int × Int)} {zs : List Int} (h : sfV H ps zs = 0) : hfV H = 0 := by
  unfold sfV at h
  split at h
  · assumption
  · rename_i h1; exact absurd h h1
theorem two2 {v : World} {q : Nat} {t : TypeId} {z0 z1 : Value} (h : Vb v q #[z0, z1] t) (u0 u1 : Value) :
    Vb ((v.setCell ⟨q, 0, none⟩ u0).setCell ⟨q, 1, none⟩ u1) q #[u0, u1] t ∧ Mq (fun k => k = q) v ((v.setCell ⟨q, 0, none⟩ u0).setCell ⟨q, 1, none⟩ u1) := by
  have h0 : Vb (v.setCell ⟨q, 0, none⟩ u0) q #[u0, z1] t := h.set 0 u0
  exact ⟨h0.set 1 u1, ((Mq.refl (fun k => k = q) v).set ⟨q, 0, none⟩ u0 rfl).set ⟨q, 1, none⟩ u1 rfl⟩
theorem eq_textR (a : Int) (s : ByteArray) (w : World) :
    Calls Tryd.prog 9 #[.agg #[.int .i64 a, .string s], .agg #[.int .i64 a, .string s]] w fun e w' => e = .returned (.bool true) ∧ Below w.heap.size w w' := by
  go_enter Tryd.func9, Tryd.ntmps9
  go_wp2_with fail
  go_ret
  exact ⟨rfl, al (al (Below.refl _ _) _) _⟩
set_option maxRecDepth 20000 in
set_option maxHeartbeats 8000000 in
theorem i_soloText (r c i o l m : Value) (H : Ht) (ps : List (Int × Int)) (zs : List Int) (b : Nat) (w : World) (h : Sm w b r c i o l m H ps zs) (hl : ps.length ≤ 1048576) (tb : Lib.TabIs Tryd.prog w "internal/strconv.uint64pow10" .u64 Lib.pow10Tab) :
    Calls Tryd.prog 8 #[.agg #[r, .int .i64 H.pc, c, .bool H.halted, .bool H.waiting, .bool H.rung, .int .i64 H.done, i, o, l, m]] w fun e w' => e = .returned (.agg #[.int .i64 (stR H ps zs).1, .string (bs (stR H ps zs).2)]) ∧ Below w.heap.size w w' := by
  obtain ⟨U, hU⟩ : ∃ U, (stR H ps zs).1 = U := ⟨_, rfl⟩
  obtain ⟨T, hT⟩ : ∃ T, bs (stR H ps zs).2 = T := ⟨_, rfl⟩
  rw [hU, hT]
  have HU : Hid ((stR H ps zs).1 = U ∧ bs (stR H ps zs).2 = T) := ⟨hU, hT⟩
  clear hU hT
  obtain ⟨a0, k0, e0, _, _, g0⟩ := h.h.r.shape
  obtain ⟨a1, k1, e1, _⟩ := h.h.c.shape
  obtain ⟨a2, k2, e2, _⟩ := h.h.i.shape
  obtain ⟨a3, k3, e3, _⟩ := h.h.o.shape
  obtain ⟨a4, k4, e4, _⟩ := h.pl.shape
  obtain ⟨a5, k5, e5, _⟩ := h.mm.shape
  subst e0 e1 e2 e3 e4 e5
  obtain ⟨n0, hn0⟩ : ∃ n, H.regs.length = n := ⟨_, rfl⟩
  obtain ⟨n1, hn1⟩ : ∃ n, H.csr.length = n := ⟨_, rfl⟩
  obtain ⟨n2, hn2⟩ : ∃ n, H.inn.length = n := ⟨_, rfl⟩
  obtain ⟨n3, hn3⟩ : ∃ n, H.out.length = n := ⟨_, rfl⟩
  obtain ⟨n4, hn4⟩ : ∃ n, ps.length = n := ⟨_, rfl⟩
  obtain ⟨n5, hn5⟩ : ∃ n, zs.length = n := ⟨_, rfl⟩
  rw [hn0] at g0
  rw [hn0, hn1, hn2, hn3, hn4, hn5] at h ⊢
  have HS : Hid (Sm w b (.slice a0 n0 k0) (.slice a1 n1 k1) (.slice a2 n2 k2) (.slice a3 n3 k3) (.slice a4 n4 k4) (.slice a5 n5 k5) H ps zs) := h
  have HL : Hid (ps.length ≤ 1048576) := hl
  have G0 : Hid (0 < n0 → ∃ g, a0 = some ⟨g, 0, none⟩) := g0
  have N0 : Hid (H.regs.length = n0 ∧ H.inn.length = n2 ∧ H.out.length = n3) := ⟨hn0, hn2, hn3⟩
  have HT : Hid (Lib.TabIs Tryd.prog w "internal/strconv.uint64pow10" .u64 Lib.pow10Tab) := tb
  clear tb
  clear h hl g0 hn0 hn1 hn2 hn3 hn4 hn5
  generalize hW : (w.alloc (.cells #[.slice a0 n0 k0, .int .i64 H.pc, .slice a1 n1 k1, .bool H.halted, .bool H.waiting, .bool H.rung, .int .i64 H.done, .slice a2 n2 k2, .slice a3 n3 k3, .slice a4 n4 k4, .slice a5 n5 k5] 35)).alloc (.cells #[.int .i64 0, .string ⟨#[]⟩] 30) = W
  have B0 : Hid (Below w.heap.size w W) := by show Below _ _ _; rw [← hW]; exact al (al (Below.refl _ _) _) _
  obtain ⟨s, hS⟩ : ∃ s, w.heap.size = s := ⟨_, rfl⟩
  have HSs : Hid (w.heap.size = s) := hS
  have Q : Hid (Vb W s #[.slice a0 n0 k0, .int .i64 H.pc, .slice a1 n1 k1, .bool H.halted, .bool H.waiting, .bool H.rung, .int .i64 H.done, .slice a2 n2 k2, .slice a3 n3 k3, .slice a4 n4 k4, .slice a5 n5 k5] 35) := by show Vb _ _ _ _; rw [← hW, ← hS]; exact (Vb.new _ _ _).push _
  have R : Hid (Vb W (s + 1) #[.int .i64 0, .string ⟨#[]⟩] 30) := by
    have z1 : s + 1 = (w.alloc (.cells #[.slice a0 n0 k0, .int .i64 H.pc, .slice a1 n1 k1, .bool H.halted, .bool H.waiting, .bool H.rung, .int .i64 H.done, .slice a2 n2 k2, .slice a3 n3 k3, .slice a4 n4 k4, .slice a5 n5 k5] 35)).heap.size := by rw [← hS]; simp
    show Vb _ _ _ _; rw [← hW, z1]; exact Vb.new _ _ _
  have q0 := Q.out.cell 0 rfl
  have q1 := Q.out.cell 1 rfl
  have q2 := Q.out.cell 2 rfl
  have q3 := Q.out.cell 3 rfl
  have q4 := Q.out.cell 4 rfl
  have q5 := Q.out.cell 5 rfl
  have q6 := Q.out.cell 6 rfl
  have q7 := Q.out.cell 7 rfl
  have q8 := Q.out.cell 8 rfl
  have q9 := Q.out.cell 9 rfl
  have q10 := Q.out.cell 10 rfl
  go_enter Tryd.func8, Tryd.ntmps8
  go_wp2_with fail
  clear hW hS q0 q1 q2 q3 q4 q5 q6 q7 q8 q9 q10
  refine (i_soloFault _ _ _ _ _ _ H ps zs _ _ (HS.out.keep B0.out) HL.out).mono ?_
  rintro e w1 ⟨rfl, b1⟩
  have B1 : Hid (Below w.heap.size w w1) := on B0.out b1
  have R1 : Hid (Vb w1 (s + 1) #[.int .i64 0, .string ⟨#[]⟩] 30) := R.out.keep b1
  have Q1 : Hid (Vb w1 s #[.slice a0 n0 k0, .int .i64 H.pc, .slice a1 n1 k1, .bool H.halted, .bool H.waiting, .bool H.rung, .int .i64 H.done, .slice a2 n2 k2, .slice a3 n3 k3, .slice a4 n4 k4, .slice a5 n5 k5] 35) := Q.out.keep b1
  clear b1
  by_cases hf : sfV H ps zs = 0
  case neg =>
    have t1 : sfV H ps zs = U := by rw [← HU.out.1, stR, if_neg hf]
    have t2 : ⟨#[]⟩ = T := by rw [← HU.out.2, stR, if_neg hf]; rfl
    clear HU
    rw [t1]
    subst t2
    rw [t1] at hf
    clear t1
    have p0 := R1.out.cell 0 rfl
    have f0 := R1.out.free 0
    have p1 := R1.out.cell 1 rfl
    have f1 := R1.out.free 1
    go_wp2_with fail
    have NN : Hid (_ ∧ _) := two2 R1.out (.int .i64 U) (.string ⟨#[]⟩)
    clear p0 f0 p1 f1
    generalize ((w1.setCell ⟨s + 1, 0, none⟩ (.int .i64 U)).setCell ⟨s + 1, 1, none⟩ (.string ⟨#[]⟩)) = V at *
    have x0 := NN.out.1.cell 0 rfl
    have x1 := NN.out.1.cell 1 rfl
    exact bodyPost_ret (v := .agg #[.int .i64 U, .string ⟨#[]⟩]) (by simp [results, Tryd.results8, go_sem, x0, x1]) rfl ⟨rfl, Mq.under B1.out NN.out.2 fun k e => by have := HSs.out; omega⟩
  have K : Hid (Hok H) := hok_of (sf_hf hf)
  have t1 : 0 = U := by rw [← HU.out.1, stR, if_pos hf]
  have ET : Hid (bs (textW H) = T) := by show _ = _; rw [← HU.out.2, stR, if_pos hf]
  subst t1
  rw [hf]
  clear hf HU
  have q0 := Q1.out.cell 0 rfl
  have q1 := Q1.out.cell 1 rfl
  have q2 := Q1.out.cell 2 rfl
  have q3 := Q1.out.cell 3 rfl
  have q4 := Q1.out.cell 4 rfl
  have q5 := Q1.out.cell 5 rfl
  have q6 := Q1.out.cell 6 rfl
  have q7 := Q1.out.cell 7 rfl
  have q8 := Q1.out.cell 8 rfl
  go_wp2_with fail
  clear q0 q1 q2 q3 q4 q5 q6 q7 q8
  refine (i_machine _ _ _ _ H _ _ (HS.out.h.keep B1.out) K.out.r16 K.out.c11 (by have := K.out.i40; omega) (by have := K.out.o40; omega)).mono ?_
  rintro e w2 ⟨i2, o2, rfl, mi, mo, ap, b2⟩
  obtain ⟨xa, xk, rfl, _⟩ := mi.shape
  obtain ⟨ya, yk, rfl, _⟩ := mo.shape
  rw [N0.out.2.1] at mi ⊢
  rw [N0.out.2.2] at mo ⊢
  have hst := stx_store H xa n2 xk ya n3 yk w2
  have hsz := mca_size H (.slice xa n2 xk) (.slice ya n3 yk)
  have MO : Hid (Nums w2 w1.heap.size (.slice ya n3 yk) H.out) := mo
  have B2 : Hid (Below w.heap.size w w2) := on B1.out b2
  have R2 : Hid (Vb w2 (s + 1) #[.int .i64 0, .string ⟨#[]⟩] 30) := R1.out.keep b2
  clear mi mo ap b2
  go_wp2_with fail
  generalize hW3 : w2.alloc (.cells (mca H (.slice xa n2 xk) (.slice ya n3 yk)) 63) = W3
  have b3 : Below w2.heap.size w2 W3 := by rw [← hW3]; exact al (Below.refl _ _) _
  have V3 : Hid (Vb W3 w2.heap.size (mca H (.slice xa n2 xk) (.slice ya n3 yk)) 63) := by show Vb _ _ _ _; rw [← hW3]; exact Vb.new _ _ _
  have B3 : Hid (Below w.heap.size w W3) := on B2.out b3
  have R3 : Hid (Vb W3 (s + 1) #[.int .i64 0, .string ⟨#[]⟩] 30) := R2.out.keep b3
  have MO3 : Hid (Nums W3 w1.heap.size (.slice ya n3 yk) H.out) := MO.out.keep b3
  clear hst hsz hW3 b3
  generalize w2.heap.size = t at *
  refine (i_linesM t H _ _ _ _ _ _ W3 V3.out K.out MO3.out.rn (Lib.tabBelow_of_tabIs HT.out _ B3.out)).mono ?_
  rintro e w4 ⟨rfl, b4⟩
  have B4 : Hid (Below w.heap.size w w4) := on B3.out b4
  have R4 : Hid (Vb w4 (s + 1) #[.int .i64 0, .string ⟨#[]⟩] 30) := R3.out.keep b4
  clear b4
  rw [ET.out]
  have p0 := R4.out.cell 0 rfl
  have f0 := R4.out.free 0
  have p1 := R4.out.cell 1 rfl
  have f1 := R4.out.free 1
  go_wp2_with fail
  have NN : Hid (_ ∧ _) := two2 R4.out (.int .i64 0) (.string T)
  clear p0 f0 p1 f1
  generalize ((w4.setCell ⟨s + 1, 0, none⟩ (.int .i64 0)).setCell ⟨s + 1, 1, none⟩ (.string T)) = V at *
  have x0 := NN.out.1.cell 0 rfl
  have x1 := NN.out.1.cell 1 rfl
  exact bodyPost_ret (v := .agg #[.int .i64 0, .string T]) (by simp [results, Tryd.results8, go_sem, x0, x1]) rfl ⟨by first | rfl | simp, Mq.under B4.out NN.out.2 fun k e => by have := HSs.out; omega⟩
set_option maxRecDepth 20000 in
set_option maxHeartbeats 8000000 in
theorem s_soloText (r c i o l m : Value) (H : Ht) (ps : List (Int × Int)) (zs : List Int) (b : Nat) (w : World) (h : Sm w b r c i o l m H ps zs) (hl : ps.length ≤ 1048576) :
    Calls Tryd.prog 6 #[.agg #[r, .int .i64 H.pc, c, .bool H.halted, .bool H.waiting, .bool H.rung, .int .i64 H.done, i, o, l, m]] w fun e w' => e = .returned (.agg #[.int .i64 (stR H ps zs).1, .string (bs (stR H ps zs).2)]) ∧ Below w.heap.size w w' := by
  obtain ⟨U, hU⟩ : ∃ U, (stR H ps zs).1 = U := ⟨_, rfl⟩
  obtain ⟨T, hT⟩ : ∃ T, bs (stR H ps zs).2 = T := ⟨_, rfl⟩
  rw [hU, hT]
  have HU : Hid ((stR H ps zs).1 = U ∧ bs (stR H ps zs).2 = T) := ⟨hU, hT⟩
  clear hU hT
  obtain ⟨a0, k0, e0, _, _, g0⟩ := h.h.r.shape
  obtain ⟨a1, k1, e1, _⟩ := h.h.c.shape
  obtain ⟨a2, k2, e2, _⟩ := h.h.i.shape
  obtain ⟨a3, k3, e3, _⟩ := h.h.o.shape
  obtain ⟨a4, k4, e4, _⟩ := h.pl.shape
  obtain ⟨a5, k5, e5, _⟩ := h.mm.shape
  subst e0 e1 e2 e3 e4 e5
  obtain ⟨n0, hn0⟩ : ∃ n, H.regs.length = n := ⟨_, rfl⟩
  obtain ⟨n1, hn1⟩ : ∃ n, H.csr.length = n := ⟨_, rfl⟩
  obtain ⟨n2, hn2⟩ : ∃ n, H.inn.length = n := ⟨_, rfl⟩
  obtain ⟨n3, hn3⟩ : ∃ n, H.out.length = n := ⟨_, rfl⟩
  obtain ⟨n4, hn4⟩ : ∃ n, ps.length = n := ⟨_, rfl⟩
  obtain ⟨n5, hn5⟩ : ∃ n, zs.length = n := ⟨_, rfl⟩
  rw [hn0] at g0
  rw [hn0, hn1, hn2, hn3, hn4, hn5] at h ⊢
  have HS : Hid (Sm w b (.slice a0 n0 k0) (.slice a1 n1 k1) (.slice a2 n2 k2) (.slice a3 n3 k3) (.slice a4 n4 k4) (.slice a5 n5 k5) H ps zs) := h
  have HL : Hid (ps.length ≤ 1048576) := hl
  have G0 : Hid (0 < n0 → ∃ g, a0 = some ⟨g, 0, none⟩) := g0
  have N0 : Hid (H.regs.length = n0 ∧ H.inn.length = n2 ∧ H.out.length = n3) := ⟨hn0, hn2, hn3⟩
  clear h hl g0 hn0 hn1 hn2 hn3 hn4 hn5
  generalize hW : (w.alloc (.cells #[.slice a0 n0 k0, .int .i64 H.pc, .slice a1 n1 k1, .bool H.halted, .bool H.waiting, .bool H.rung, .int .i64 H.done, .slice a2 n2 k2, .slice a3 n3 k3, .slice a4 n4 k4, .slice a5 n5 k5] 35)).alloc (.cells #[.int .i64 0, .string ⟨#[]⟩] 30) = W
  have B0 : Hid (Below w.heap.size w W) := by show Below _ _ _; rw [← hW]; exact al (al (Below.refl _ _) _) _
  obtain ⟨s, hS⟩ : ∃ s, w.heap.size = s := ⟨_, rfl⟩
  have HSs : Hid (w.heap.size = s) := hS
  have Q : Hid (Vb W s #[.slice a0 n0 k0, .int .i64 H.pc, .slice a1 n1 k1, .bool H.halted, .bool H.waiting, .bool H.rung, .int .i64 H.done, .slice a2 n2 k2, .slice a3 n3 k3, .slice a4 n4 k4, .slice a5 n5 k5] 35) := by show Vb _ _ _ _; rw [← hW, ← hS]; exact (Vb.new _ _ _).push _
  have R : Hid (Vb W (s + 1) #[.int .i64 0, .string ⟨#[]⟩] 30) := by
    have z1 : s + 1 = (w.alloc (.cells #[.slice a0 n0 k0, .int .i64 H.pc, .slice a1 n1 k1, .bool H.halted, .bool H.waiting, .bool H.rung, .int .i64 H.done, .slice a2 n2 k2, .slice a3 n3 k3, .slice a4 n4 k4, .slice a5 n5 k5] 35)).heap.size := by rw [← hS]; simp
    show Vb _ _ _ _; rw [← hW, z1]; exact Vb.new _ _ _
  have q0 := Q.out.cell 0 rfl
  have q1 := Q.out.cell 1 rfl
  have q2 := Q.out.cell 2 rfl
  have q3 := Q.out.cell 3 rfl
  have q4 := Q.out.cell 4 rfl
  have q5 := Q.out.cell 5 rfl
  have q6 := Q.out.cell 6 rfl
  have q7 := Q.out.cell 7 rfl
  have q8 := Q.out.cell 8 rfl
  have q9 := Q.out.cell 9 rfl
  have q10 := Q.out.cell 10 rfl
  go_enter Tryd.func6, Tryd.ntmps6
  go_wp2_with fail
  clear hW hS q0 q1 q2 q3 q4 q5 q6 q7 q8 q9 q10
  refine (s_soloFault _ _ _ _ _ _ H ps zs _ _ (HS.out.keep B0.out) HL.out).mono ?_
  rintro e w1 ⟨rfl, b1⟩
  have B1 : Hid (Below w.heap.size w w1) := on B0.out b1
  have R1 : Hid (Vb w1 (s + 1) #[.int .i64 0, .string ⟨#[]⟩] 30) := R.out.keep b1
  have Q1 : Hid (Vb w1 s #[.slice a0 n0 k0, .int .i64 H.pc, .slice a1 n1 k1, .bool H.halted, .bool H.waiting, .bool H.rung, .int .i64 H.done, .slice a2 n2 k2, .slice a3 n3 k3, .slice a4 n4 k4, .slice a5 n5 k5] 35) := Q.out.keep b1
  clear b1
  by_cases hf : sfV H ps zs = 0
  case neg =>
    have t1 : sfV H ps zs = U := by rw [← HU.out.1, stR, if_neg hf]
    have t2 : ⟨#[]⟩ = T := by rw [← HU.out.2, stR, if_neg hf]; rfl
    clear HU
    rw [t1]
    subst t2
    rw [t1] at hf
    clear t1
    have p0 := R1.out.cell 0 rfl
    have f0 := R1.out.free 0
    have p1 := R1.out.cell 1 rfl
    have f1 := R1.out.free 1
    go_wp2_with fail
    have NN : Hid (_ ∧ _) := two2 R1.out (.int .i64 U) (.string ⟨#[]⟩)
    clear p0 f0 p1 f1
    generalize ((w1.setCell ⟨s + 1, 0, none⟩ (.int .i64 U)).setCell ⟨s + 1, 1, none⟩ (.string ⟨#[]⟩)) = V at *
    have x0 := NN.out.1.cell 0 rfl
    have x1 := NN.out.1.cell 1 rfl
    exact bodyPost_ret (v := .agg #[.int .i64 U, .string ⟨#[]⟩]) (by simp [results, Tryd.results6, go_sem, x0, x1]) rfl ⟨rfl, Mq.under B1.out NN.out.2 fun k e => by have := HSs.out; omega⟩
  have K : Hid (Hok H) := hok_of (sf_hf hf)
  have t1 : 0 = U := by rw [← HU.out.1, stR, if_pos hf]
  have ET : Hid (bs (textW H) = T) := by show _ = _; rw [← HU.out.2, stR, if_pos hf]
  subst t1
  rw [hf]
  clear hf HU
  obtain ⟨rg, hrg⟩ := G0.out (by have := N0.out.1; have := K.out.r16; omega)
  have e16 : n0 = 16 := by have := N0.out.1; have := K.out.r16; omega
  subst hrg e16
  go_wp2_with fail
  refine (s_text s rg k0 _ _ a3 n3 k3 H b w1 (HS.out.h.keep B1.out) K.out (Q1.out.cell 0 rfl) (Q1.out.cell 1 rfl) (Q1.out.cell 3 rfl) (Q1.out.cell 4 rfl) (Q1.out.cell 6 rfl) (Q1.out.cell 8 rfl)).mono ?_
  rintro e w4 ⟨rfl, b4⟩
  have B4 : Hid (Below w.heap.size w w4) := on B1.out b4
  have R4 : Hid (Vb w4 (s + 1) #[.int .i64 0, .string ⟨#[]⟩] 30) := R1.out.keep b4
  clear b4
  rw [ET.out]
  have p0 := R4.out.cell 0 rfl
  have f0 := R4.out.free 0
  have p1 := R4.out.cell 1 rfl
  have f1 := R4.out.free 1
  go_wp2_with fail
  have NN : Hid (_ ∧ _) := two2 R4.out (.int .i64 0) (.string T)
  clear p0 f0 p1 f1
  generalize ((w4.setCell ⟨s + 1, 0, none⟩ (.int .i64 0)).setCell ⟨s + 1, 1, none⟩ (.string T)) = V at *
  have x0 := NN.out.1.cell 0 rfl
  have x1 := NN.out.1.cell 1 rfl
  exact bodyPost_ret (v := .agg #[.int .i64 0, .string T]) (by simp [results, Tryd.results6, go_sem, x0, x1]) rfl ⟨by first | rfl | simp, Mq.under B4.out NN.out.2 fun k e => by have := HSs.out; omega⟩
end Go.Proofs.YtcneipilhlcfkaaDoor
