/- Texts of this seat, joined. -/
import Derived.Deep.Strs
import Derived.Deep.SlicePairs
import Derived.Deep.RegionWith
import Derived.Test.YtimcoobhakfnaaaGreatDoorQ05
import Derived.Test.YtimcoobhakfnaaaGreatDoorQ07
import Derived.Test.YtimcoobhakfnaaaGreatDoorQ11
import Derived.Test.YtimcoobhakfnaaaGreatDoorQ12
import Derived.Test.YtimcoobhakfnaaaGreatDoorQ13
import Derived.Test.YtimcoobhakfnaaaGreatDoorQ15
namespace Go.Proofs.YtimcoobhakfnaaaGreatDoor
open Go.RowKit

theorem spec_l2Alu1 (a b : Int) (w : World) : Calls Tryz.prog 73 #[.int .i64 1, .int .i64 a, .int .i64 b] w fun e w' => e = .returned (.int .i64 (addV a b)) ∧ Below w.heap.size w w' := by
  go_enter Tryz.func73, Tryz.ntmps73
  go_wp2_with (go_at_call 65; refine (spec_add _ _ _).mono ?_; rintro e w1 ⟨rfl, rfl⟩)
  go_ret
  exact ⟨rfl, Below.refl _ _⟩
theorem spec_l2Alu2 (a b : Int) (w : World) : Calls Tryz.prog 73 #[.int .i64 2, .int .i64 a, .int .i64 b] w fun e w' => e = .returned (.int .i64 ((a - b) % 4294967296)) ∧ Below w.heap.size w w' := by
  go_enter Tryz.func73, Tryz.ntmps73
  go_wp2_with fail
  go_ret
  exact ⟨ret_i64 (by first | rfl | simp | exact sub_eq a b), Below.refl _ _⟩
theorem spec_l2Alu3 (a b : Int) (w : World) : Calls Tryz.prog 73 #[.int .i64 3, .int .i64 a, .int .i64 b] w fun e w' => e = .returned (.int .i64 (mulV a b)) ∧ Below w.heap.size w w' := by
  go_enter Tryz.func73, Tryz.ntmps73
  go_wp2_with (go_at_call 96; refine (spec_mul _ _ _).mono ?_; rintro e w1 ⟨rfl, rfl⟩)
  go_ret
  exact ⟨rfl, Below.refl _ _⟩
theorem spec_l2Alu4 (a b : Int) (w : World) : Calls Tryz.prog 73 #[.int .i64 4, .int .i64 a, .int .i64 b] w fun e w' => e = .returned (.int .i64 (divV a b)) ∧ Below w.heap.size w w' := by
  go_enter Tryz.func73, Tryz.ntmps73
  go_wp2_with (go_at_call 97; refine (spec_div _ _ _).mono ?_; rintro e w1 ⟨rfl, rfl⟩)
  go_ret
  exact ⟨rfl, Below.refl _ _⟩
theorem spec_l2Alu5 (a b : Int) (w : World) : Calls Tryz.prog 73 #[.int .i64 5, .int .i64 a, .int .i64 b] w fun e w' => e = .returned (.int .i64 (remV a b)) ∧ Below w.heap.size w w' := by
  go_enter Tryz.func73, Tryz.ntmps73
  go_wp2_with (go_at_call 98; refine (spec_rem _ _ _).mono ?_; rintro e w1 ⟨rfl, rfl⟩)
  go_ret
  exact ⟨rfl, Below.refl _ _⟩
theorem spec_l2Alu6 (a b : Int) (w : World) : Calls Tryz.prog 73 #[.int .i64 6, .int .i64 a, .int .i64 b] w fun e w' => e = .returned (.int .i64 (bitV 1 a b)) ∧ Below w.heap.size w w' := by
  have hf := field_value
  go_enter Tryz.func73, Tryz.ntmps73
  go_wp2_with (go_at_call 99; refine (spec_bit _ _ _ _).mono ?_; rintro e w1 ⟨rfl, hb⟩)
  go_ret
  exact ⟨rfl, hb⟩
theorem spec_l2Alu7 (a b : Int) (w : World) : Calls Tryz.prog 73 #[.int .i64 7, .int .i64 a, .int .i64 b] w fun e w' => e = .returned (.int .i64 (bitV 2 a b)) ∧ Below w.heap.size w w' := by
  have hf := field_value
  go_enter Tryz.func73, Tryz.ntmps73
  go_wp2_with (go_at_call 99; refine (spec_bit _ _ _ _).mono ?_; rintro e w1 ⟨rfl, hb⟩)
  go_ret
  exact ⟨rfl, hb⟩
theorem spec_l2Alu8 (a b : Int) (w : World) : Calls Tryz.prog 73 #[.int .i64 8, .int .i64 a, .int .i64 b] w fun e w' => e = .returned (.int .i64 (bitV 3 a b)) ∧ Below w.heap.size w w' := by
  have hf := field_value
  go_enter Tryz.func73, Tryz.ntmps73
  go_wp2_with (go_at_call 99; refine (spec_bit _ _ _ _).mono ?_; rintro e w1 ⟨rfl, hb⟩)
  go_ret
  exact ⟨rfl, hb⟩
theorem spec_l2Alu9 (a b : Int) (w : World) : Calls Tryz.prog 73 #[.int .i64 9, .int .i64 a, .int .i64 b] w fun e w' => e = .returned (.int .i64 (shlV a b)) ∧ Below w.heap.size w w' := by
  go_enter Tryz.func73, Tryz.ntmps73
  go_wp2_with (go_at_call 100; refine (spec_shl _ _ _).mono ?_; rintro e w1 ⟨rfl, rfl⟩)
  go_ret
  exact ⟨rfl, Below.refl _ _⟩
theorem spec_l2Alu10 (a b : Int) (w : World) : Calls Tryz.prog 73 #[.int .i64 10, .int .i64 a, .int .i64 b] w fun e w' => e = .returned (.int .i64 (shrV a b)) ∧ Below w.heap.size w w' := by
  go_enter Tryz.func73, Tryz.ntmps73
  go_wp2_with (go_at_call 100; refine (spec_shr _ _ _).mono ?_; rintro e w1 ⟨rfl, rfl⟩)
  go_ret
  exact ⟨rfl, Below.refl _ _⟩
theorem spec_l2Alu11 (a b : Int) (w : World) : Calls Tryz.prog 73 #[.int .i64 11, .int .i64 a, .int .i64 b] w fun e w' => e = .returned (.int .i64 (if sgn a < sgn b then 1 else 0)) ∧ Below w.heap.size w w' := by
  by_cases h : sgn a < sgn b
  all_goals
    first | rw [if_pos h] | rw [if_neg h]
    go_enter Tryz.func73, Tryz.ntmps73
    go_wp2_with (go_at_call 94; refine (spec_signed _ _).mono ?_; rintro e w1 ⟨rfl, rfl⟩)
    go_ret
    exact ⟨rfl, Below.refl _ _⟩

theorem spec_l2Alu (op a b : Int) (w : World) (h : 1 ≤ op ∧ op ≤ 11) : Calls Tryz.prog 73 #[.int .i64 op, .int .i64 a, .int .i64 b] w fun e w' => e = .returned (.int .i64 (aluV op a b)) ∧ Below w.heap.size w w' := by
  rcases (by omega : op = 1 ∨ op = 2 ∨ op = 3 ∨ op = 4 ∨ op = 5 ∨ op = 6 ∨ op = 7 ∨ op = 8 ∨ op = 9 ∨ op = 10 ∨ op = 11) with rfl | rfl | rfl | rfl | rfl | rfl | rfl | rfl | rfl | rfl | rfl
  · rw [aluV1]; exact spec_l2Alu1 a b w
  · rw [aluV2]; exact spec_l2Alu2 a b w
  · rw [aluV3]; exact spec_l2Alu3 a b w
  · rw [aluV4]; exact spec_l2Alu4 a b w
  · rw [aluV5]; exact spec_l2Alu5 a b w
  · rw [aluV6]; exact spec_l2Alu6 a b w
  · rw [aluV7]; exact spec_l2Alu7 a b w
  · rw [aluV8]; exact spec_l2Alu8 a b w
  · rw [aluV9]; exact spec_l2Alu9 a b w
  · rw [aluV10]; exact spec_l2Alu10 a b w
  · rw [aluV11]; exact spec_l2Alu11 a b w

end Go.Proofs.YtimcoobhakfnaaaGreatDoor
namespace Go.Proofs.YtimcoobhakfnaaaGreatDoor
open Go.RowKit Go.ChangeShapes Go.WideShapes Go.ChangeAt
set_option linter.unusedVariables false

theorem list11 {α : Type} {l : List α} (h : l.length = 11) : ∃ a0 a1 a2 a3 a4 a5 a6 a7 a8 a9 a10, l = [a0, a1, a2, a3, a4, a5, a6, a7, a8, a9, a10] := by
  match l, h with
  | [a0, a1, a2, a3, a4, a5, a6, a7, a8, a9, a10], _ => exact ⟨a0, a1, a2, a3, a4, a5, a6, a7, a8, a9, a10, rfl⟩
theorem hart_trod {K : Type} {enc : TypeId × Value → K} {P : Program} {w : World} {base : Nat} {held : Bool} {t : TypeId} {f0 f1 f2 f3 f4 f5 f6 f7 f8 : Field} {v0 v1 v2 v3 v4 v5 v6 v7 v8 : Value} {fuel : Nat} {x : DataW K × List MemPlace} {e0 e2 e7 e8 : TypeId}
    (hs : P.underlying t = some (.struct #[f0, f1, f2, f3, f4, f5, f6, f7, f8])) (hone : Go.Deep.oneCellFields P #[f0, f1, f2, f3, f4, f5, f6, f7, f8] = true)
    (u0 : P.underlying f0.type = some (.slice e0)) (u1 : P.underlying f1.type = some (.int .i64)) (u2 : P.underlying f2.type = some (.slice e2)) (u3 : P.underlying f3.type = some .bool) (u4 : P.underlying f4.type = some .bool) (u5 : P.underlying f5.type = some .bool)
    (u6 : P.underlying f6.type = some (.int .i64)) (u7 : P.underlying f7.type = some (.slice e7)) (u8 : P.underlying f8.type = some (.slice e8))
    (i0 : P.underlying e0 = some (.int .i64)) (i2 : P.underlying e2 = some (.int .i64)) (i7 : P.underlying e7 = some (.int .i64)) (i8 : P.underlying e8 = some (.int .i64))
    (c0 : P.cellsOf e0 = 1) (c2 : P.cellsOf e2 = 1) (c7 : P.cellsOf e7 = 1) (c8 : P.cellsOf e8 = 1)
    (hf : DataW.trod enc P w base (fun _ => true) held fuel t [v0, v1, v2, v3, v4, v5, v6, v7, v8] = some x) :
    ∃ (a0 a1 a2 a3 : Option Addr) (n0 k0 n1 k1 n2 k2 n3 k3 : Nat) (H : Ht), [v0, v1, v2, v3, v4, v5, v6, v7, v8] = [.slice a0 n0 k0, .int .i64 H.pc, .slice a1 n1 k1, .bool H.halted, .bool H.waiting, .bool H.rung, .int .i64 H.done, .slice a2 n2 k2, .slice a3 n3 k3] ∧
      Hin w a0 n0 k0 a1 n1 k1 a2 n2 k2 a3 n3 k3 H := by
  obtain ⟨xs, n, _, hx, hl, hlen, hg⟩ := DataW.trod_struct hs hf
  obtain ⟨y0, y1, y2, y3, y4, y5, y6, y7, y8, rfl⟩ := list9 (show xs.length = 9 from (by simpa using hlen))
  have g0 := hg 0 f0 rfl
  have g1 := hg 1 f1 rfl
  have g2 := hg 2 f2 rfl
  have g3 := hg 3 f3 rfl
  have g4 := hg 4 f4 rfl
  have g5 := hg 5 f5 rfl
  have g6 := hg 6 f6 rfl
  have g7 := hg 7 f7 rfl
  have g8 := hg 8 f8 rfl
  obtain ⟨o0, q0⟩ := Go.Deep.hone_of hone 0 f0 rfl
  obtain ⟨o1, q1⟩ := Go.Deep.hone_of hone 1 f1 rfl
  obtain ⟨o2, q2⟩ := Go.Deep.hone_of hone 2 f2 rfl
  obtain ⟨o3, q3⟩ := Go.Deep.hone_of hone 3 f3 rfl
  obtain ⟨o4, q4⟩ := Go.Deep.hone_of hone 4 f4 rfl
  obtain ⟨o5, q5⟩ := Go.Deep.hone_of hone 5 f5 rfl
  obtain ⟨o6, q6⟩ := Go.Deep.hone_of hone 6 f6 rfl
  obtain ⟨o7, q7⟩ := Go.Deep.hone_of hone 7 f7 rfl
  obtain ⟨o8, q8⟩ := Go.Deep.hone_of hone 8 f8 rfl
  simp [o0, q0] at g0
  simp [o1, q1] at g1
  simp [o2, q2] at g2
  simp [o3, q3] at g3
  simp [o4, q4] at g4
  simp [o5, q5] at g5
  simp [o6, q6] at g6
  simp [o7, q7] at g7
  simp [o8, q8] at g8
  obtain ⟨a0, n0, k0, z0, rfl, w0⟩ := rn_open u0 i0 c0 g0
  obtain ⟨a1, n1, k1, z1, rfl, w1⟩ := rn_open u2 i2 c2 g2
  obtain ⟨a2, n2, k2, z2, rfl, w2⟩ := rn_open u7 i7 c7 g7
  obtain ⟨a3, n3, k3, z3, rfl, w3⟩ := rn_open u8 i8 c8 g8
  obtain ⟨pc, p1, _, _⟩ := DataW.trod_int u1 g1
  obtain ⟨dn, p6, _, _⟩ := DataW.trod_int u6 g6
  obtain ⟨b3, rfl⟩ := bool_open u3 g3
  obtain ⟨b4, rfl⟩ := bool_open u4 g4
  obtain ⟨b5, rfl⟩ := bool_open u5 g5
  simp at p1 p6
  subst p1 p6
  exact ⟨a0, a1, a2, a3, n0, k0, n1, k1, n2, k2, n3, k3, ⟨z0, pc, z1, b3, b4, b5, dn, z2, z3⟩, rfl, ⟨w0, w1, w2, w3⟩⟩
/-- A list of pages that comes in. -/
theorem prs_open {K : Type} {enc : TypeId × Value → K} {P : Program} {w : World} {base : Nat} {held : Bool} {t e : TypeId} {g0 g1 : Field} {fuel : Nat} {v : Value} {x : DataW K × List MemPlace}
    (ht : P.underlying t = some (.slice e)) (he : P.underlying e = some (.struct #[g0, g1])) (hc : P.cellsOf e = 2) (o0 : g0.offset = 0) (o1 : g1.offset = 1) (k0 : P.cellsOf g0.type = 1) (k1 : P.cellsOf g1.type = 1) (i0 : P.underlying g0.type = some (.int .i64)) (i1 : P.underlying g1.type = some (.int .i64))
    (hf : DataW.trod enc P w base (fun _ => true) held fuel t [v] = some x) : ∃ a len cap rs, v = .slice a len cap ∧ IsPairs w a len cap rs := by
  rcases Go.Deep.open_slice_pairs ht he hc o0 o1 k0 k1 hf with ⟨hcs, _⟩ | ⟨x, l, c, m, n, V0, V1, D0, D1, P0, P1, hcs, _, hl, hm, hmm, _, hx⟩
  · simp at hcs
    exact ⟨none, 0, 0, [], hcs, .inl ⟨rfl, rfl, rfl, rfl⟩⟩
  · simp at hcs
    obtain ⟨rs, hr⟩ : ∃ rs, IsPairs w (some x) l c rs := by
      refine IsPairs.of V0 V1 hl hm fun j hj => ?_
      have hjm : j < m := by rw [hmm]; split <;> omega
      obtain ⟨g0, g1, g2, g3⟩ := hx j hjm
      obtain ⟨b0, y0, _, _⟩ := DataW.trod_int i0 g2
      obtain ⟨b1, y1, _, _⟩ := DataW.trod_int i1 g3
      exact ⟨g0, g1, ⟨b0, by simpa using y0⟩, ⟨b1, by simpa using y1⟩⟩
    exact ⟨some x, l, c, rs, hcs, hr⟩
theorem solo_open {K : Type} {enc : TypeId × Value → K} {P : Program} {w : World} {base : Nat} {held : Bool} {r : Reach} {b0 : Nat} {t : TypeId} {s0 s1 s2 f0 f1 f2 f3 f4 f5 f6 f7 f8 g0 g1 : Field} {v : Value} {d : DataW K} {p : List MemPlace} {e0 e2 e7 e8 ep em : TypeId}
    (ht : P.underlying t = some (.struct #[s0, s1, s2])) (hC : P.cellsOf t = 11) (q0 : s0.offset = 0) (q1 : s1.offset = 9) (q2 : s2.offset = 10) (j0 : P.cellsOf s0.type = 9) (j1 : P.cellsOf s1.type = 1) (j2 : P.cellsOf s2.type = 1)
    (hs : P.underlying s0.type = some (.struct #[f0, f1, f2, f3, f4, f5, f6, f7, f8])) (hone : Go.Deep.oneCellFields P #[f0, f1, f2, f3, f4, f5, f6, f7, f8] = true)
    (u0 : P.underlying f0.type = some (.slice e0)) (u1 : P.underlying f1.type = some (.int .i64)) (u2 : P.underlying f2.type = some (.slice e2)) (u3 : P.underlying f3.type = some .bool) (u4 : P.underlying f4.type = some .bool) (u5 : P.underlying f5.type = some .bool)
    (u6 : P.underlying f6.type = some (.int .i64)) (u7 : P.underlying f7.type = some (.slice e7)) (u8 : P.underlying f8.type = some (.slice e8))
    (i0 : P.underlying e0 = some (.int .i64)) (i2 : P.underlying e2 = some (.int .i64)) (i7 : P.underlying e7 = some (.int .i64)) (i8 : P.underlying e8 = some (.int .i64))
    (c0 : P.cellsOf e0 = 1) (c2 : P.cellsOf e2 = 1) (c7 : P.cellsOf e7 = 1) (c8 : P.cellsOf e8 = 1)
    (up : P.underlying s1.type = some (.slice ep)) (he : P.underlying ep = some (.struct #[g0, g1])) (hc : P.cellsOf ep = 2) (o0 : g0.offset = 0) (o1 : g1.offset = 1) (k0 : P.cellsOf g0.type = 1) (k1 : P.cellsOf g1.type = 1) (y0 : P.underlying g0.type = some (.int .i64)) (y1 : P.underlying g1.type = some (.int .i64))
    (um : P.underlying s2.type = some (.slice em)) (im : P.underlying em = some (.int .i64)) (cm : P.cellsOf em = 1)
    (hv : Value.okWide P w r b0 t v) (h : DataW.Trod enc P w base (fun _ => true) held t v d p) :
    ∃ (a0 a1 a2 a3 : Option Addr) (n0 k0 n1 k1 n2 k2 n3 k3 : Nat) (H : Ht) (la : Option Addr) (ln lc : Nat) (ps : List (Int × Int)) (ma : Option Addr) (mn mc : Nat) (zs : List Int), v = .agg #[.slice a0 n0 k0, .int .i64 H.pc, .slice a1 n1 k1, .bool H.halted, .bool H.waiting, .bool H.rung, .int .i64 H.done, .slice a2 n2 k2, .slice a3 n3 k3, .slice la ln lc, .slice ma mn mc] ∧
      Hin w a0 n0 k0 a1 n1 k1 a2 n2 k2 a3 n3 k3 H ∧ IsPairs w la ln lc ps ∧ IsRow .i64 w ma mn mc zs := by
  obtain ⟨cs, rfl, hsz⟩ := okWide_struct ht hv
  obtain ⟨l⟩ := cs
  obtain ⟨v0, v1, v2, v3, v4, v5, v6, v7, v8, v9, v10, rfl⟩ := list11 (show l.length = 11 from (by simpa using hsz.trans hC))
  obtain ⟨fuel, hf⟩ := h
  obtain ⟨xs, n, _, hx, hl, hlen, hg⟩ := DataW.trod_struct ht hf
  have h3 : xs.length = 3 := by simpa using hlen
  obtain ⟨z0, z1, z2, rfl⟩ : ∃ a b c, xs = [a, b, c] := by
    match xs, h3 with
    | [a, b, c], _ => exact ⟨a, b, c, rfl⟩
  have G0 := hg 0 s0 rfl
  have G1 := hg 1 s1 rfl
  have G2 := hg 2 s2 rfl
  simp [Value.cells, q0, j0] at G0
  simp [Value.cells, q1, j1] at G1
  simp [Value.cells, q2, j2] at G2
  obtain ⟨la, ln, lc, ps, rfl, hps⟩ := prs_open up he hc o0 o1 k0 k1 y0 y1 G1
  obtain ⟨a0, a1, a2, a3, n0, k0, n1, k1, n2, k2, n3, k3, H, e, hin⟩ := hart_trod hs hone u0 u1 u2 u3 u4 u5 u6 u7 u8 i0 i2 i7 i8 c0 c2 c7 c8 G0
  obtain ⟨ma, mn, mc, zs, rfl, hzs⟩ := rn_open um im cm G2
  simp at e
  obtain ⟨rfl, rfl, rfl, rfl, rfl, rfl, rfl, rfl, rfl⟩ := e
  exact ⟨a0, a1, a2, a3, n0, _, n1, _, n2, _, n3, _, H, la, ln, lc, ps, ma, mn, mc, zs, rfl, hin, hps, hzs⟩
end Go.Proofs.YtimcoobhakfnaaaGreatDoor
namespace Go.Proofs.YtimcoobhakfnaaaGreatDoor
open Go.RowKit
set_option linter.unusedVariables false

set_option maxRecDepth 20000 in
set_option maxHeartbeats 8000000 in
theorem s_faultC (q : Nat) (r c i o : Value) (H : Ht) (b : Nat) (w : World) (h : Hm w b r c i o H) (v0 : w.cell? ⟨q, 0, none⟩ = some r) (v1 : w.cell? ⟨q, 1, none⟩ = some (.int .i64 H.pc)) (v2 : w.cell? ⟨q, 2, none⟩ = some c) (v6 : w.cell? ⟨q, 6, none⟩ = some (.int .i64 H.done)) (v7 : w.cell? ⟨q, 7, none⟩ = some i) (v8 : w.cell? ⟨q, 8, none⟩ = some o) :
    Calls Tryz.prog 34 #[.pointer (some ⟨q, 0, none⟩)] w fun e w' => e = .returned (.int .i64 (hfV H)) ∧ w' = w := by
  have HM : Hid (Hm w b r c i o H) := h
  obtain ⟨a0, k0, h0, _, _, g0⟩ := h.r.shape
  obtain ⟨a1, k1, h1, _, _, g1⟩ := h.c.shape
  obtain ⟨a2, k2, h2, _, l2, _⟩ := h.i.shape
  obtain ⟨a3, k3, h3, _, l3, _⟩ := h.o.shape
  have R0 := h.r.rv
  obtain ⟨n0, e0⟩ : ∃ n, H.regs.length = n := ⟨_, rfl⟩
  obtain ⟨n1, e1⟩ : ∃ n, H.csr.length = n := ⟨_, rfl⟩
  obtain ⟨n2, e2⟩ : ∃ n, H.inn.length = n := ⟨_, rfl⟩
  obtain ⟨n3, e3⟩ : ∃ n, H.out.length = n := ⟨_, rfl⟩
  rw [e0] at h0 g0
  rw [e1] at h1 g1
  rw [e2] at h2
  rw [e3] at h3
  have EL : Hid (H.regs.length = n0 ∧ H.csr.length = n1 ∧ H.inn.length = n2 ∧ H.out.length = n3) := ⟨e0, e1, e2, e3⟩
  subst h0 h1 h2 h3
  have hl2 : (n2 : Int) ≤ 9223372036854775807 := by have := h.i.lens; unfold maxLen at this; omega
  have hl3 : (n3 : Int) ≤ 9223372036854775807 := by have := h.o.lens; unfold maxLen at this; omega
  have hl0 : (n0 : Int) ≤ 9223372036854775807 := by have := h.r.lens; unfold maxLen at this; omega
  have hl1 : (n1 : Int) ≤ 9223372036854775807 := by have := h.c.lens; unfold maxLen at this; omega
  clear h e0 e1 e2 e3 l2 l3 R0
  by_cases hn0 : n0 = 16
  case neg =>
    have HN : Hid (¬ (H.regs.length = 16 ∧ H.csr.length = 11 ∧ H.regs.getD 0 0 = 0)) := fun k => hn0 (EL.out.1.symm.trans k.1)
    have hI : ¬ (n0 : Int) = 16 := by omega
    go_enter Tryz.func34, Tryz.ntmps34
    go_wp2_with fail
    go_ret
    exact ⟨ret_i (hf_form HN.out).symm, rfl⟩
  subst hn0
  obtain ⟨y0, rfl⟩ := g0 (by decide)
  clear g0
  by_cases hn1 : n1 = 11
  case neg =>
    have HN : Hid (¬ (H.regs.length = 16 ∧ H.csr.length = 11 ∧ H.regs.getD 0 0 = 0)) := fun k => hn1 (EL.out.2.1.symm.trans k.2.1)
    have hI : ¬ (n1 : Int) = 11 := by omega
    go_enter Tryz.func34, Tryz.ntmps34
    go_wp2_with fail
    go_ret
    exact ⟨ret_i (hf_form HN.out).symm, rfl⟩
  subst hn1
  obtain ⟨y1, rfl⟩ := g1 (by decide)
  clear g1
  obtain ⟨z0, hz0⟩ : ∃ z, H.regs.getD 0 0 = z := ⟨_, rfl⟩
  have cz : w.cell? ⟨y0, 0, none⟩ = some (.int .i64 z0) := by rw [← hz0]; exact HM.out.r.cell EL.out.1.symm 0 (by decide)
  have Y0 : Hid (y0 < w.heap.size) := block_of_cell (HM.out.r.cell EL.out.1.symm 0 (by decide))
  have Y1 : Hid (y1 < w.heap.size) := block_of_cell (HM.out.c.cell EL.out.2.1.symm 0 (by decide))
  have y0lt : y0 < w.heap.size := Y0.out
  have y1lt : y1 < w.heap.size := Y1.out
  have HZ0 : Hid (H.regs.getD 0 0 = z0) := hz0
  clear hz0
  by_cases hr0 : z0 = 0
  case neg =>
    have HN : Hid (¬ (H.regs.length = 16 ∧ H.csr.length = 11 ∧ H.regs.getD 0 0 = 0)) := fun k => hr0 (HZ0.out.symm.trans k.2.2)
    go_enter Tryz.func34, Tryz.ntmps34
    go_wp2_with fail
    go_ret
    exact ⟨ret_i (hf_form HN.out).symm, rfl⟩
  have FM : Hid (H.regs.length = 16 ∧ H.csr.length = 11 ∧ H.regs.getD 0 0 = 0) := ⟨EL.out.1, EL.out.2.1, HZ0.out.trans hr0⟩
  subst hr0
  cases hb0 : H.regs.all isW
  case false =>
    have HN : Hid (H.words = false) := by show _ = _; simp [Ht.words, hb0]
    go_enter Tryz.func34, Tryz.ntmps34
    go_wp2_with (first
          | (go_at_call_of 58 (Value.slice (some ⟨y0, 0, none⟩) 16 k0); refine (s_words (some ⟨y0, 0, none⟩) 16 k0 H.regs _ HM.out.r.rn).mono ?_; rintro e x ⟨rfl, rfl⟩; rw [hb0])
          | (go_at_call_of 58 (Value.slice (some ⟨y1, 0, none⟩) 11 k1); refine (s_words (some ⟨y1, 0, none⟩) 11 k1 H.csr _ HM.out.c.rn).mono ?_; rintro e x ⟨rfl, rfl⟩; rw [hb1])
          | (go_at_call_of 58 (Value.slice a2 n2 k2); refine (s_words a2 n2 k2 H.inn _ HM.out.i.rn).mono ?_; rintro e x ⟨rfl, rfl⟩; rw [hb2])
          | (go_at_call_of 58 (Value.slice a3 n3 k3); refine (s_words a3 n3 k3 H.out _ HM.out.o.rn).mono ?_; rintro e x ⟨rfl, rfl⟩; rw [hb3])
          | (go_at_call 59; refine (s_word _ _).mono ?_; rintro e x ⟨rfl, rfl⟩; rw [hbp])
          | (go_at_call 17; refine (spec_in _ _ _ _).mono ?_; rintro e x ⟨rfl, rfl⟩; rw [hdn]))
    go_ret
    exact ⟨ret_i (hf_words FM.out HN.out).symm, rfl⟩
  cases hbp : isW H.pc
  case false =>
    have HN : Hid (H.words = false) := by show _ = _; simp [Ht.words, hbp]
    go_enter Tryz.func34, Tryz.ntmps34
    go_wp2_with (first
          | (go_at_call_of 58 (Value.slice (some ⟨y0, 0, none⟩) 16 k0); refine (s_words (some ⟨y0, 0, none⟩) 16 k0 H.regs _ HM.out.r.rn).mono ?_; rintro e x ⟨rfl, rfl⟩; rw [hb0])
          | (go_at_call_of 58 (Value.slice (some ⟨y1, 0, none⟩) 11 k1); refine (s_words (some ⟨y1, 0, none⟩) 11 k1 H.csr _ HM.out.c.rn).mono ?_; rintro e x ⟨rfl, rfl⟩; rw [hb1])
          | (go_at_call_of 58 (Value.slice a2 n2 k2); refine (s_words a2 n2 k2 H.inn _ HM.out.i.rn).mono ?_; rintro e x ⟨rfl, rfl⟩; rw [hb2])
          | (go_at_call_of 58 (Value.slice a3 n3 k3); refine (s_words a3 n3 k3 H.out _ HM.out.o.rn).mono ?_; rintro e x ⟨rfl, rfl⟩; rw [hb3])
          | (go_at_call 59; refine (s_word _ _).mono ?_; rintro e x ⟨rfl, rfl⟩; rw [hbp])
          | (go_at_call 17; refine (spec_in _ _ _ _).mono ?_; rintro e x ⟨rfl, rfl⟩; rw [hdn]))
    go_ret
    exact ⟨ret_i (hf_words FM.out HN.out).symm, rfl⟩
  cases hb1 : H.csr.all isW
  case false =>
    have HN : Hid (H.words = false) := by show _ = _; simp [Ht.words, hb1]
    go_enter Tryz.func34, Tryz.ntmps34
    go_wp2_with (first
          | (go_at_call_of 58 (Value.slice (some ⟨y0, 0, none⟩) 16 k0); refine (s_words (some ⟨y0, 0, none⟩) 16 k0 H.regs _ HM.out.r.rn).mono ?_; rintro e x ⟨rfl, rfl⟩; rw [hb0])
          | (go_at_call_of 58 (Value.slice (some ⟨y1, 0, none⟩) 11 k1); refine (s_words (some ⟨y1, 0, none⟩) 11 k1 H.csr _ HM.out.c.rn).mono ?_; rintro e x ⟨rfl, rfl⟩; rw [hb1])
          | (go_at_call_of 58 (Value.slice a2 n2 k2); refine (s_words a2 n2 k2 H.inn _ HM.out.i.rn).mono ?_; rintro e x ⟨rfl, rfl⟩; rw [hb2])
          | (go_at_call_of 58 (Value.slice a3 n3 k3); refine (s_words a3 n3 k3 H.out _ HM.out.o.rn).mono ?_; rintro e x ⟨rfl, rfl⟩; rw [hb3])
          | (go_at_call 59; refine (s_word _ _).mono ?_; rintro e x ⟨rfl, rfl⟩; rw [hbp])
          | (go_at_call 17; refine (spec_in _ _ _ _).mono ?_; rintro e x ⟨rfl, rfl⟩; rw [hdn]))
    go_ret
    exact ⟨ret_i (hf_words FM.out HN.out).symm, rfl⟩
  cases hb2 : H.inn.all isW
  case false =>
    have HN : Hid (H.words = false) := by show _ = _; simp [Ht.words, hb2]
    go_enter Tryz.func34, Tryz.ntmps34
    go_wp2_with (first
          | (go_at_call_of 58 (Value.slice (some ⟨y0, 0, none⟩) 16 k0); refine (s_words (some ⟨y0, 0, none⟩) 16 k0 H.regs _ HM.out.r.rn).mono ?_; rintro e x ⟨rfl, rfl⟩; rw [hb0])
          | (go_at_call_of 58 (Value.slice (some ⟨y1, 0, none⟩) 11 k1); refine (s_words (some ⟨y1, 0, none⟩) 11 k1 H.csr _ HM.out.c.rn).mono ?_; rintro e x ⟨rfl, rfl⟩; rw [hb1])
          | (go_at_call_of 58 (Value.slice a2 n2 k2); refine (s_words a2 n2 k2 H.inn _ HM.out.i.rn).mono ?_; rintro e x ⟨rfl, rfl⟩; rw [hb2])
          | (go_at_call_of 58 (Value.slice a3 n3 k3); refine (s_words a3 n3 k3 H.out _ HM.out.o.rn).mono ?_; rintro e x ⟨rfl, rfl⟩; rw [hb3])
          | (go_at_call 59; refine (s_word _ _).mono ?_; rintro e x ⟨rfl, rfl⟩; rw [hbp])
          | (go_at_call 17; refine (spec_in _ _ _ _).mono ?_; rintro e x ⟨rfl, rfl⟩; rw [hdn]))
    go_ret
    exact ⟨ret_i (hf_words FM.out HN.out).symm, rfl⟩
  cases hb3 : H.out.all isW
  case false =>
    have HN : Hid (H.words = false) := by show _ = _; simp [Ht.words, hb3]
    go_enter Tryz.func34, Tryz.ntmps34
    go_wp2_with (first
          | (go_at_call_of 58 (Value.slice (some ⟨y0, 0, none⟩) 16 k0); refine (s_words (some ⟨y0, 0, none⟩) 16 k0 H.regs _ HM.out.r.rn).mono ?_; rintro e x ⟨rfl, rfl⟩; rw [hb0])
          | (go_at_call_of 58 (Value.slice (some ⟨y1, 0, none⟩) 11 k1); refine (s_words (some ⟨y1, 0, none⟩) 11 k1 H.csr _ HM.out.c.rn).mono ?_; rintro e x ⟨rfl, rfl⟩; rw [hb1])
          | (go_at_call_of 58 (Value.slice a2 n2 k2); refine (s_words a2 n2 k2 H.inn _ HM.out.i.rn).mono ?_; rintro e x ⟨rfl, rfl⟩; rw [hb2])
          | (go_at_call_of 58 (Value.slice a3 n3 k3); refine (s_words a3 n3 k3 H.out _ HM.out.o.rn).mono ?_; rintro e x ⟨rfl, rfl⟩; rw [hb3])
          | (go_at_call 59; refine (s_word _ _).mono ?_; rintro e x ⟨rfl, rfl⟩; rw [hbp])
          | (go_at_call 17; refine (spec_in _ _ _ _).mono ?_; rintro e x ⟨rfl, rfl⟩; rw [hdn]))
    go_ret
    exact ⟨ret_i (hf_words FM.out HN.out).symm, rfl⟩
  have WM : Hid (H.words = true) := by show _ = _; simp [Ht.words, hb0, hbp, hb1, hb2, hb3]
  have CW : Hid (H.csr.all isW = true) := hb1
  by_cases hn2 : n2 ≤ 40
  case neg =>
    have HN : Hid (¬ (H.inn.length ≤ 40 ∧ H.out.length ≤ 40)) := fun k => hn2 (by have := EL.out.2.2.1; omega)
    have hI : (40 : Int) < (n2 : Int) := by omega
    go_enter Tryz.func34, Tryz.ntmps34
    go_wp2_with (first
          | (go_at_call_of 58 (Value.slice (some ⟨y0, 0, none⟩) 16 k0); refine (s_words (some ⟨y0, 0, none⟩) 16 k0 H.regs _ HM.out.r.rn).mono ?_; rintro e x ⟨rfl, rfl⟩; rw [hb0])
          | (go_at_call_of 58 (Value.slice (some ⟨y1, 0, none⟩) 11 k1); refine (s_words (some ⟨y1, 0, none⟩) 11 k1 H.csr _ HM.out.c.rn).mono ?_; rintro e x ⟨rfl, rfl⟩; rw [hb1])
          | (go_at_call_of 58 (Value.slice a2 n2 k2); refine (s_words a2 n2 k2 H.inn _ HM.out.i.rn).mono ?_; rintro e x ⟨rfl, rfl⟩; rw [hb2])
          | (go_at_call_of 58 (Value.slice a3 n3 k3); refine (s_words a3 n3 k3 H.out _ HM.out.o.rn).mono ?_; rintro e x ⟨rfl, rfl⟩; rw [hb3])
          | (go_at_call 59; refine (s_word _ _).mono ?_; rintro e x ⟨rfl, rfl⟩; rw [hbp])
          | (go_at_call 17; refine (spec_in _ _ _ _).mono ?_; rintro e x ⟨rfl, rfl⟩; rw [hdn]))
    go_ret
    exact ⟨ret_i (hf_few FM.out WM.out HN.out).symm, rfl⟩
  have hI2 : ¬ (40 : Int) < (n2 : Int) := by omega
  by_cases hn3 : n3 ≤ 40
  case neg =>
    have HN : Hid (¬ (H.inn.length ≤ 40 ∧ H.out.length ≤ 40)) := fun k => hn3 (by have := EL.out.2.2.2; omega)
    have hI : (40 : Int) < (n3 : Int) := by omega
    go_enter Tryz.func34, Tryz.ntmps34
    go_wp2_with (first
          | (go_at_call_of 58 (Value.slice (some ⟨y0, 0, none⟩) 16 k0); refine (s_words (some ⟨y0, 0, none⟩) 16 k0 H.regs _ HM.out.r.rn).mono ?_; rintro e x ⟨rfl, rfl⟩; rw [hb0])
          | (go_at_call_of 58 (Value.slice (some ⟨y1, 0, none⟩) 11 k1); refine (s_words (some ⟨y1, 0, none⟩) 11 k1 H.csr _ HM.out.c.rn).mono ?_; rintro e x ⟨rfl, rfl⟩; rw [hb1])
          | (go_at_call_of 58 (Value.slice a2 n2 k2); refine (s_words a2 n2 k2 H.inn _ HM.out.i.rn).mono ?_; rintro e x ⟨rfl, rfl⟩; rw [hb2])
          | (go_at_call_of 58 (Value.slice a3 n3 k3); refine (s_words a3 n3 k3 H.out _ HM.out.o.rn).mono ?_; rintro e x ⟨rfl, rfl⟩; rw [hb3])
          | (go_at_call 59; refine (s_word _ _).mono ?_; rintro e x ⟨rfl, rfl⟩; rw [hbp])
          | (go_at_call 17; refine (spec_in _ _ _ _).mono ?_; rintro e x ⟨rfl, rfl⟩; rw [hdn]))
    go_ret
    exact ⟨ret_i (hf_few FM.out WM.out HN.out).symm, rfl⟩
  have hI3 : ¬ (40 : Int) < (n3 : Int) := by omega
  have FW : Hid (H.inn.length ≤ 40 ∧ H.out.length ≤ 40) := ⟨by have := EL.out.2.2.1; omega, by have := EL.out.2.2.2; omega⟩
  cases hdn : (decide (0 ≤ H.done) && decide (H.done ≤ 1000000000))
  case false =>
    have HN : Hid (¬ (0 ≤ H.done ∧ H.done ≤ 1000000000)) := fun k => by simp [k.1, k.2] at hdn
    go_enter Tryz.func34, Tryz.ntmps34
    go_wp2_with (first
          | (go_at_call_of 58 (Value.slice (some ⟨y0, 0, none⟩) 16 k0); refine (s_words (some ⟨y0, 0, none⟩) 16 k0 H.regs _ HM.out.r.rn).mono ?_; rintro e x ⟨rfl, rfl⟩; rw [hb0])
          | (go_at_call_of 58 (Value.slice (some ⟨y1, 0, none⟩) 11 k1); refine (s_words (some ⟨y1, 0, none⟩) 11 k1 H.csr _ HM.out.c.rn).mono ?_; rintro e x ⟨rfl, rfl⟩; rw [hb1])
          | (go_at_call_of 58 (Value.slice a2 n2 k2); refine (s_words a2 n2 k2 H.inn _ HM.out.i.rn).mono ?_; rintro e x ⟨rfl, rfl⟩; rw [hb2])
          | (go_at_call_of 58 (Value.slice a3 n3 k3); refine (s_words a3 n3 k3 H.out _ HM.out.o.rn).mono ?_; rintro e x ⟨rfl, rfl⟩; rw [hb3])
          | (go_at_call 59; refine (s_word _ _).mono ?_; rintro e x ⟨rfl, rfl⟩; rw [hbp])
          | (go_at_call 17; refine (spec_in _ _ _ _).mono ?_; rintro e x ⟨rfl, rfl⟩; rw [hdn]))
    go_ret
    exact ⟨ret_i (hf_nice FM.out WM.out FW.out HN.out).symm, rfl⟩
  have ND : Hid (0 ≤ H.done ∧ H.done ≤ 1000000000) := by show _ ∧ _; simpa using hdn
  obtain ⟨s0, hs0⟩ : ∃ z, H.csr.getD 0 0 = z := ⟨_, rfl⟩
  have cs0 : w.cell? ⟨y1, 0, none⟩ = some (.int .i64 s0) := by rw [← hs0]; exact HM.out.c.cell EL.out.2.1.symm 0 (by decide)
  have Hs0 : Hid (H.csr.getD 0 0 = s0) := hs0
  clear hs0
  obtain ⟨s7, hs7⟩ : ∃ z, H.csr.getD 7 0 = z := ⟨_, rfl⟩
  have cs7 : w.cell? ⟨y1, 7, none⟩ = some (.int .i64 s7) := by rw [← hs7]; exact HM.out.c.cell EL.out.2.1.symm 7 (by decide)
  have Hs7 : Hid (H.csr.getD 7 0 = s7) := hs7
  clear hs7
  obtain ⟨s10, hs10⟩ : ∃ z, H.csr.getD 10 0 = z := ⟨_, rfl⟩
  have cs10 : w.cell? ⟨y1, 10, none⟩ = some (.int .i64 s10) := by rw [← hs10]; exact HM.out.c.cell EL.out.2.1.symm 10 (by decide)
  have Hs10 : Hid (H.csr.getD 10 0 = s10) := hs10
  clear hs10
  obtain ⟨s6, hs6⟩ : ∃ z, H.csr.getD 6 0 = z := ⟨_, rfl⟩
  have cs6 : w.cell? ⟨y1, 6, none⟩ = some (.int .i64 s6) := by rw [← hs6]; exact HM.out.c.cell EL.out.2.1.symm 6 (by decide)
  have Hs6 : Hid (H.csr.getD 6 0 = s6) := hs6
  clear hs6
  obtain ⟨s8, hs8⟩ : ∃ z, H.csr.getD 8 0 = z := ⟨_, rfl⟩
  have cs8 : w.cell? ⟨y1, 8, none⟩ = some (.int .i64 s8) := by rw [← hs8]; exact HM.out.c.cell EL.out.2.1.symm 8 (by decide)
  have Hs8 : Hid (H.csr.getD 8 0 = s8) := hs8
  clear hs8
  have SC : Hid (standC H.csr = (decide (s0 ≤ 3) && decide (s7 ≤ 7) && decide (s10 ≤ 8) && decide (s6 = 0) && decide (s8 = 0))) := by show _ = _; unfold standC; rw [Hs0.out, Hs7.out, Hs10.out, Hs6.out, Hs8.out]
  by_cases ts0 : s0 ≤ 3
  case neg =>
    have HN : Hid (standC H.csr = false) := by show _ = _; rw [SC.out]; simp [ts0]
    have hI : 3 < s0 := by omega
    go_enter Tryz.func34, Tryz.ntmps34
    go_wp2_with (first
          | (go_at_call_of 58 (Value.slice (some ⟨y0, 0, none⟩) 16 k0); refine (s_words (some ⟨y0, 0, none⟩) 16 k0 H.regs _ HM.out.r.rn).mono ?_; rintro e x ⟨rfl, rfl⟩; rw [hb0])
          | (go_at_call_of 58 (Value.slice (some ⟨y1, 0, none⟩) 11 k1); refine (s_words (some ⟨y1, 0, none⟩) 11 k1 H.csr _ HM.out.c.rn).mono ?_; rintro e x ⟨rfl, rfl⟩; rw [hb1])
          | (go_at_call_of 58 (Value.slice a2 n2 k2); refine (s_words a2 n2 k2 H.inn _ HM.out.i.rn).mono ?_; rintro e x ⟨rfl, rfl⟩; rw [hb2])
          | (go_at_call_of 58 (Value.slice a3 n3 k3); refine (s_words a3 n3 k3 H.out _ HM.out.o.rn).mono ?_; rintro e x ⟨rfl, rfl⟩; rw [hb3])
          | (go_at_call 59; refine (s_word _ _).mono ?_; rintro e x ⟨rfl, rfl⟩; rw [hbp])
          | (go_at_call 17; refine (spec_in _ _ _ _).mono ?_; rintro e x ⟨rfl, rfl⟩; rw [hdn]))
    go_ret
    exact ⟨ret_i ((hf_stand FM.out WM.out FW.out ND.out).trans (by rw [HN.out]; rfl)).symm, rfl⟩
  have us0 : ¬ 3 < s0 := by omega
  by_cases ts7 : s7 ≤ 7
  case neg =>
    have HN : Hid (standC H.csr = false) := by show _ = _; rw [SC.out]; simp [ts7]
    have hI : 7 < s7 := by omega
    go_enter Tryz.func34, Tryz.ntmps34
    go_wp2_with (first
          | (go_at_call_of 58 (Value.slice (some ⟨y0, 0, none⟩) 16 k0); refine (s_words (some ⟨y0, 0, none⟩) 16 k0 H.regs _ HM.out.r.rn).mono ?_; rintro e x ⟨rfl, rfl⟩; rw [hb0])
          | (go_at_call_of 58 (Value.slice (some ⟨y1, 0, none⟩) 11 k1); refine (s_words (some ⟨y1, 0, none⟩) 11 k1 H.csr _ HM.out.c.rn).mono ?_; rintro e x ⟨rfl, rfl⟩; rw [hb1])
          | (go_at_call_of 58 (Value.slice a2 n2 k2); refine (s_words a2 n2 k2 H.inn _ HM.out.i.rn).mono ?_; rintro e x ⟨rfl, rfl⟩; rw [hb2])
          | (go_at_call_of 58 (Value.slice a3 n3 k3); refine (s_words a3 n3 k3 H.out _ HM.out.o.rn).mono ?_; rintro e x ⟨rfl, rfl⟩; rw [hb3])
          | (go_at_call 59; refine (s_word _ _).mono ?_; rintro e x ⟨rfl, rfl⟩; rw [hbp])
          | (go_at_call 17; refine (spec_in _ _ _ _).mono ?_; rintro e x ⟨rfl, rfl⟩; rw [hdn]))
    go_ret
    exact ⟨ret_i ((hf_stand FM.out WM.out FW.out ND.out).trans (by rw [HN.out]; rfl)).symm, rfl⟩
  have us7 : ¬ 7 < s7 := by omega
  by_cases ts10 : s10 ≤ 8
  case neg =>
    have HN : Hid (standC H.csr = false) := by show _ = _; rw [SC.out]; simp [ts10]
    have hI : 8 < s10 := by omega
    go_enter Tryz.func34, Tryz.ntmps34
    go_wp2_with (first
          | (go_at_call_of 58 (Value.slice (some ⟨y0, 0, none⟩) 16 k0); refine (s_words (some ⟨y0, 0, none⟩) 16 k0 H.regs _ HM.out.r.rn).mono ?_; rintro e x ⟨rfl, rfl⟩; rw [hb0])
          | (go_at_call_of 58 (Value.slice (some ⟨y1, 0, none⟩) 11 k1); refine (s_words (some ⟨y1, 0, none⟩) 11 k1 H.csr _ HM.out.c.rn).mono ?_; rintro e x ⟨rfl, rfl⟩; rw [hb1])
          | (go_at_call_of 58 (Value.slice a2 n2 k2); refine (s_words a2 n2 k2 H.inn _ HM.out.i.rn).mono ?_; rintro e x ⟨rfl, rfl⟩; rw [hb2])
          | (go_at_call_of 58 (Value.slice a3 n3 k3); refine (s_words a3 n3 k3 H.out _ HM.out.o.rn).mono ?_; rintro e x ⟨rfl, rfl⟩; rw [hb3])
          | (go_at_call 59; refine (s_word _ _).mono ?_; rintro e x ⟨rfl, rfl⟩; rw [hbp])
          | (go_at_call 17; refine (spec_in _ _ _ _).mono ?_; rintro e x ⟨rfl, rfl⟩; rw [hdn]))
    go_ret
    exact ⟨ret_i ((hf_stand FM.out WM.out FW.out ND.out).trans (by rw [HN.out]; rfl)).symm, rfl⟩
  have us10 : ¬ 8 < s10 := by omega
  by_cases ts6 : s6 = 0
  case neg =>
    have HN : Hid (standC H.csr = false) := by show _ = _; rw [SC.out]; simp [ts6]
    have hI : (s6 != 0) = true := by simp [ts6]
    go_enter Tryz.func34, Tryz.ntmps34
    go_wp2_with (first
          | (go_at_call_of 58 (Value.slice (some ⟨y0, 0, none⟩) 16 k0); refine (s_words (some ⟨y0, 0, none⟩) 16 k0 H.regs _ HM.out.r.rn).mono ?_; rintro e x ⟨rfl, rfl⟩; rw [hb0])
          | (go_at_call_of 58 (Value.slice (some ⟨y1, 0, none⟩) 11 k1); refine (s_words (some ⟨y1, 0, none⟩) 11 k1 H.csr _ HM.out.c.rn).mono ?_; rintro e x ⟨rfl, rfl⟩; rw [hb1])
          | (go_at_call_of 58 (Value.slice a2 n2 k2); refine (s_words a2 n2 k2 H.inn _ HM.out.i.rn).mono ?_; rintro e x ⟨rfl, rfl⟩; rw [hb2])
          | (go_at_call_of 58 (Value.slice a3 n3 k3); refine (s_words a3 n3 k3 H.out _ HM.out.o.rn).mono ?_; rintro e x ⟨rfl, rfl⟩; rw [hb3])
          | (go_at_call 59; refine (s_word _ _).mono ?_; rintro e x ⟨rfl, rfl⟩; rw [hbp])
          | (go_at_call 17; refine (spec_in _ _ _ _).mono ?_; rintro e x ⟨rfl, rfl⟩; rw [hdn]))
    go_ret
    exact ⟨ret_i ((hf_stand FM.out WM.out FW.out ND.out).trans (by rw [HN.out]; rfl)).symm, rfl⟩
  subst ts6
  by_cases ts8 : s8 = 0
  case neg =>
    have HN : Hid (standC H.csr = false) := by show _ = _; rw [SC.out]; simp [ts8]
    have hI : (s8 != 0) = true := by simp [ts8]
    go_enter Tryz.func34, Tryz.ntmps34
    go_wp2_with (first
          | (go_at_call_of 58 (Value.slice (some ⟨y0, 0, none⟩) 16 k0); refine (s_words (some ⟨y0, 0, none⟩) 16 k0 H.regs _ HM.out.r.rn).mono ?_; rintro e x ⟨rfl, rfl⟩; rw [hb0])
          | (go_at_call_of 58 (Value.slice (some ⟨y1, 0, none⟩) 11 k1); refine (s_words (some ⟨y1, 0, none⟩) 11 k1 H.csr _ HM.out.c.rn).mono ?_; rintro e x ⟨rfl, rfl⟩; rw [hb1])
          | (go_at_call_of 58 (Value.slice a2 n2 k2); refine (s_words a2 n2 k2 H.inn _ HM.out.i.rn).mono ?_; rintro e x ⟨rfl, rfl⟩; rw [hb2])
          | (go_at_call_of 58 (Value.slice a3 n3 k3); refine (s_words a3 n3 k3 H.out _ HM.out.o.rn).mono ?_; rintro e x ⟨rfl, rfl⟩; rw [hb3])
          | (go_at_call 59; refine (s_word _ _).mono ?_; rintro e x ⟨rfl, rfl⟩; rw [hbp])
          | (go_at_call 17; refine (spec_in _ _ _ _).mono ?_; rintro e x ⟨rfl, rfl⟩; rw [hdn]))
    go_ret
    exact ⟨ret_i ((hf_stand FM.out WM.out FW.out ND.out).trans (by rw [HN.out]; rfl)).symm, rfl⟩
  subst ts8
  have HN : Hid (standC H.csr = true) := by show _ = _; rw [SC.out]; simp [ts0, ts7, ts10]
  go_enter Tryz.func34, Tryz.ntmps34
  go_wp2_with (first
        | (go_at_call_of 58 (Value.slice (some ⟨y0, 0, none⟩) 16 k0); refine (s_words (some ⟨y0, 0, none⟩) 16 k0 H.regs _ HM.out.r.rn).mono ?_; rintro e x ⟨rfl, rfl⟩; rw [hb0])
        | (go_at_call_of 58 (Value.slice (some ⟨y1, 0, none⟩) 11 k1); refine (s_words (some ⟨y1, 0, none⟩) 11 k1 H.csr _ HM.out.c.rn).mono ?_; rintro e x ⟨rfl, rfl⟩; rw [hb1])
        | (go_at_call_of 58 (Value.slice a2 n2 k2); refine (s_words a2 n2 k2 H.inn _ HM.out.i.rn).mono ?_; rintro e x ⟨rfl, rfl⟩; rw [hb2])
        | (go_at_call_of 58 (Value.slice a3 n3 k3); refine (s_words a3 n3 k3 H.out _ HM.out.o.rn).mono ?_; rintro e x ⟨rfl, rfl⟩; rw [hb3])
        | (go_at_call 59; refine (s_word _ _).mono ?_; rintro e x ⟨rfl, rfl⟩; rw [hbp])
        | (go_at_call 17; refine (spec_in _ _ _ _).mono ?_; rintro e x ⟨rfl, rfl⟩; rw [hdn]))
  go_ret
  exact ⟨ret_i ((hf_stand FM.out WM.out FW.out ND.out).trans (by rw [HN.out]; rfl)).symm, rfl⟩

end Go.Proofs.YtimcoobhakfnaaaGreatDoor
