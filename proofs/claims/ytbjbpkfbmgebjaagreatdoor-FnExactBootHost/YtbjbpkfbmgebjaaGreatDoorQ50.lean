/- Texts of this seat, joined. -/
import Derived.Deep.RegionWith
import Derived.Deep.RegionHeld3
import Derived.Deep.Cut
import Derived.Deep.CutRange
import Derived.Test.YtbjbpkfbmgebjaaGreatDoorQ39
import Derived.Test.YtbjbpkfbmgebjaaGreatDoorQ48
import Derived.Test.YtbjbpkfbmgebjaaGreatDoorQ49
namespace Go.Proofs.YtbjbpkfbmgebjaaGreatDoor
open Go.RowKit
set_option linter.unusedVariables false

theorem nineX {v : World} {q : Nat} {t : TypeId} {z0 z1 z2 z3 z4 z5 z6 z7 z8 : Value} (h : Vb v q #[z0, z1, z2, z3, z4, z5, z6, z7, z8] t) (u0 u1 u2 u3 u4 u5 u6 u7 u8 : Value) :
    Vb (v.setCells q 0 #[u0, u1, u2, u3, u4, u5, u6, u7, u8].toList) q #[u0, u1, u2, u3, u4, u5, u6, u7, u8] t ∧ Mq (fun k => k = q) v (v.setCells q 0 #[u0, u1, u2, u3, u4, u5, u6, u7, u8].toList) := by
  have h0 : Vb (v.setCell ⟨q, 0, none⟩ u0) q #[u0, z1, z2, z3, z4, z5, z6, z7, z8] t := h.set 0 u0
  have h1 : Vb ((v.setCell ⟨q, 0, none⟩ u0).setCell ⟨q, 1, none⟩ u1) q #[u0, u1, z2, z3, z4, z5, z6, z7, z8] t := h0.set 1 u1
  have h2 : Vb (((v.setCell ⟨q, 0, none⟩ u0).setCell ⟨q, 1, none⟩ u1).setCell ⟨q, 2, none⟩ u2) q #[u0, u1, u2, z3, z4, z5, z6, z7, z8] t := h1.set 2 u2
  have h3 : Vb ((((v.setCell ⟨q, 0, none⟩ u0).setCell ⟨q, 1, none⟩ u1).setCell ⟨q, 2, none⟩ u2).setCell ⟨q, 3, none⟩ u3) q #[u0, u1, u2, u3, z4, z5, z6, z7, z8] t := h2.set 3 u3
  have h4 : Vb (((((v.setCell ⟨q, 0, none⟩ u0).setCell ⟨q, 1, none⟩ u1).setCell ⟨q, 2, none⟩ u2).setCell ⟨q, 3, none⟩ u3).setCell ⟨q, 4, none⟩ u4) q #[u0, u1, u2, u3, u4, z5, z6, z7, z8] t := h3.set 4 u4
  have h5 : Vb ((((((v.setCell ⟨q, 0, none⟩ u0).setCell ⟨q, 1, none⟩ u1).setCell ⟨q, 2, none⟩ u2).setCell ⟨q, 3, none⟩ u3).setCell ⟨q, 4, none⟩ u4).setCell ⟨q, 5, none⟩ u5) q #[u0, u1, u2, u3, u4, u5, z6, z7, z8] t := h4.set 5 u5
  have h6 : Vb (((((((v.setCell ⟨q, 0, none⟩ u0).setCell ⟨q, 1, none⟩ u1).setCell ⟨q, 2, none⟩ u2).setCell ⟨q, 3, none⟩ u3).setCell ⟨q, 4, none⟩ u4).setCell ⟨q, 5, none⟩ u5).setCell ⟨q, 6, none⟩ u6) q #[u0, u1, u2, u3, u4, u5, u6, z7, z8] t := h5.set 6 u6
  have h7 : Vb ((((((((v.setCell ⟨q, 0, none⟩ u0).setCell ⟨q, 1, none⟩ u1).setCell ⟨q, 2, none⟩ u2).setCell ⟨q, 3, none⟩ u3).setCell ⟨q, 4, none⟩ u4).setCell ⟨q, 5, none⟩ u5).setCell ⟨q, 6, none⟩ u6).setCell ⟨q, 7, none⟩ u7) q #[u0, u1, u2, u3, u4, u5, u6, u7, z8] t := h6.set 7 u7
  have h8 : Vb (((((((((v.setCell ⟨q, 0, none⟩ u0).setCell ⟨q, 1, none⟩ u1).setCell ⟨q, 2, none⟩ u2).setCell ⟨q, 3, none⟩ u3).setCell ⟨q, 4, none⟩ u4).setCell ⟨q, 5, none⟩ u5).setCell ⟨q, 6, none⟩ u6).setCell ⟨q, 7, none⟩ u7).setCell ⟨q, 8, none⟩ u8) q #[u0, u1, u2, u3, u4, u5, u6, u7, u8] t := h7.set 8 u8
  exact ⟨h8, mq_cells q _ v 0⟩
theorem ho_lessX {b b' : Nat} {w w' : World} (h : Ho b w w') (hb : b ≤ b') : Ho b' w w' := ⟨h.size, fun k hk => h.block k (by omega)⟩
theorem Mw.ky {E : TypeId} {w w' : World} {base j : Nat} {v : Value} {jss : List (List Int)} {qs : List (V4 × Ht)} (h : Mw w base v jss j qs) (k : Ky (some E) w w') (h1 : E ≠ 61) (h2 : E ≠ 2) : Mw w' base v jss j qs :=
  ⟨h.len, k.row h.row (fun e => h1 (by injection e with e; exact e.symm)), fun i q e => ⟨(h.one i q e).1, have m := (h.one i q e).2; have ne : some 2 ≠ some E := fun e => h2 (by injection e with e; exact e.symm); ⟨k.row m.r ne, k.row m.c ne, k.row m.i ne, k.row m.o ne⟩⟩, h.apart⟩
theorem Mw.hoX {w w' : World} {base j : Nat} {v : Value} {jss : List (List Int)} {qs : List (V4 × Ht)} (h : Mw w base v jss j qs) (k : Ho base w w') : Mw w' base v jss j qs :=
  ⟨h.len, row_hoX h.row k, fun i q e => ⟨(h.one i q e).1, (h.one i q e).2.ho k⟩, h.apart⟩
set_option maxRecDepth 20000 in
set_option maxHeartbeats 8000000 in
theorem sbh_load (a0 a1 a2 a3 : Option Addr) (n0 c0 n1 c1 n2 c2 n3 c3 : Nat) (P : Plc) (ia : Option Addr) (il ic : Nat) (iss : List (List Int)) (ja : Option Addr) (jl jc : Nat) (jss : List (List Int)) (b : Nat) (w : World) (h : Pl w a0 n0 c0 a1 n1 c1 a2 n2 c2 a3 n3 c3 P) (sm : Small n0 n1 n2 n3 P) (hi : IsS2 w ia il ic iss) (hj : SwN w b ja jl jc jss) (hv : loadC P iss ≠ 0) :
    Calls Tryz.prog 6 #[.agg #[.slice a0 n0 c0, .slice a1 n1 c1, .slice a2 n2 c2, .slice a3 n3 c3], .slice ia il ic, .slice ja jl jc] w fun e w' => ∃ v0 v1 v2 v3 v4 v5, e = .returned (.agg #[.int .i64 (bhC P iss jss), v0, v1, v2, v3, v4, v5, .int .i64 (bhX P iss jss).slot, .int .i64 (bhX P iss jss).left, .int .i64 (bhX P iss jss).clock]) ∧ Hq w' w.heap.size v0 v1 v2 v3 v4 v5 (bhX P iss jss) ∧ Below w.heap.size w w' := by
  have hx : bhC P iss jss = loadC P iss := by rw [bhC, if_neg hv]
  rw [bh_not P iss jss (by rw [hx]; exact hv), hx]
  obtain ⟨LC, hLC⟩ : ∃ c, loadC P iss = c := ⟨_, rfl⟩
  rw [hLC] at hv ⊢
  have HLC : Hid (loadC P iss = LC) := hLC
  clear hx hLC
  generalize hW : (w.alloc (.cells #[.slice a0 n0 c0, .slice a1 n1 c1, .slice a2 n2 c2, .slice a3 n3 c3] 34)).alloc (.cells #[.int .i64 0, .slice none 0 0, .slice none 0 0, .slice none 0 0, .slice none 0 0, .slice none 0 0, .slice none 0 0, .int .i64 0, .int .i64 0, .int .i64 0] 40) = W
  have B0 : Hid (Below w.heap.size w W) := by show Below _ _ _; rw [← hW]; exact al (al (Below.refl _ _) _) _
  obtain ⟨s, hS⟩ : ∃ s, w.heap.size = s := ⟨_, rfl⟩
  have HSs : Hid (w.heap.size = s) := hS
  have z1 : s + 1 = (w.alloc (.cells #[.slice a0 n0 c0, .slice a1 n1 c1, .slice a2 n2 c2, .slice a3 n3 c3] 34)).heap.size := by rw [← hS]; simp
  have Q : Hid (Vb W s #[.slice a0 n0 c0, .slice a1 n1 c1, .slice a2 n2 c2, .slice a3 n3 c3] 34) := by show Vb _ _ _ _; rw [← hW, ← hS]; exact (Vb.new _ _ _).push _
  have R : Hid (Vb W (s + 1) #[.int .i64 0, .slice none 0 0, .slice none 0 0, .slice none 0 0, .slice none 0 0, .slice none 0 0, .slice none 0 0, .int .i64 0, .int .i64 0, .int .i64 0] 40) := by show Vb _ _ _ _; rw [← hW, z1]; exact Vb.new _ _ _
  have ZW : Hid (s + 2 = W.heap.size) := by show _ = _; rw [← hW, ← hS]; simp
  clear z1
  have D : Hid (Pl W a0 n0 c0 a1 n1 c1 a2 n2 c2 a3 n3 c3 P) := h.stay B0.out
  have SMP : Hid (Small n0 n1 n2 n3 P) := sm
  have N0 : Hid (n0 = P.own.length) := h.own.len
  have NI : Hid (IsS2 W ia il ic iss ∧ SwN W b ja jl jc jss) := ⟨hi.stay B0.out, hj.keep B0.out⟩
  have JL : Hid (jss.length = jl ∧ jl ≤ jc ∧ jc ≤ maxLen) := hj.len
  clear h hi hj sm
  have q0 := Q.out.cell 0 rfl
  have q1 := Q.out.cell 1 rfl
  have q2 := Q.out.cell 2 rfl
  have q3 := Q.out.cell 3 rfl
  go_enter Tryz.func6, Tryz.ntmps6
  go_wp2_with fail
  clear hW hS q0 q1 q2 q3
  refine (s_load _ _ _ _ _ _ _ _ _ _ _ _ P _ _ _ iss _ D.out NI.out.1).mono ?_
  rw [HLC.out]
  rintro e w1 ⟨mv, rfl, nm, b1⟩
  obtain ⟨la, lk, e0, _⟩ := nm.shape
  subst e0
  obtain ⟨ll, hll⟩ : ∃ n, (loadZ P iss).length = n := ⟨_, rfl⟩
  rw [hll] at nm ⊢
  clear hll
  have AL : Hid (Below w1.heap.size w1 (w1.alloc (.cells #[.int .i64 LC, .slice la ll lk] 55))) := al (Below.refl _ _) _
  have E2 : Hid (Below W.heap.size W (w1.alloc (.cells #[.int .i64 LC, .slice la ll lk] 55))) := al b1 _
  have B2 : Hid (Below w.heap.size w (w1.alloc (.cells #[.int .i64 LC, .slice la ll lk] 55))) := on B0.out E2.out
  have R2 : Hid (Vb (w1.alloc (.cells #[.int .i64 LC, .slice la ll lk] 55)) (s + 1) #[.int .i64 0, .slice none 0 0, .slice none 0 0, .slice none 0 0, .slice none 0 0, .slice none 0 0, .slice none 0 0, .int .i64 0, .int .i64 0, .int .i64 0] 40) := R.out.keep E2.out
  have Q2 : Hid (Vb (w1.alloc (.cells #[.int .i64 LC, .slice la ll lk] 55)) s #[.slice a0 n0 c0, .slice a1 n1 c1, .slice a2 n2 c2, .slice a3 n3 c3] 34) := Q.out.keep E2.out
  have V2 : Hid (Vb (w1.alloc (.cells #[.int .i64 LC, .slice la ll lk] 55)) w1.heap.size #[.int .i64 LC, .slice la ll lk] 55) := Vb.new _ _ _
  have NM : Hid (Nums (w1.alloc (.cells #[.int .i64 LC, .slice la ll lk] 55)) W.heap.size (.slice la ll lk) (loadZ P iss)) := nm.keep AL.out
  have LTs : Hid (s + 2 ≤ w1.heap.size ∧ w1.heap.size + 1 = (w1.alloc (.cells #[.int .i64 LC, .slice la ll lk] 55)).heap.size) := ⟨by have := ZW.out; have := b1.size; omega, by simp⟩
  clear nm b1 AL
  go_upto_region 2 with fail
  generalize (w1.alloc (.cells #[.int .i64 LC, .slice la ll lk] 55)) = W2 at *
  obtain ⟨t2, ht2⟩ : ∃ t, w1.heap.size = t := ⟨_, rfl⟩
  rw [ht2] at V2 LTs ⊢
  clear ht2
  have v0 := V2.out.cell 0 rfl
  have p0 := R2.out.cell 0 rfl
  have f0 := R2.out.free 0
  have p1 := R2.out.cell 1 rfl
  have f1 := R2.out.free 1
  have p2 := R2.out.cell 2 rfl
  have f2 := R2.out.free 2
  have p3 := R2.out.cell 3 rfl
  have f3 := R2.out.free 3
  have p4 := R2.out.cell 4 rfl
  have f4 := R2.out.free 4
  have p5 := R2.out.cell 5 rfl
  have f5 := R2.out.free 5
  have p6 := R2.out.cell 6 rfl
  have f6 := R2.out.free 6
  have p7 := R2.out.cell 7 rfl
  have f7 := R2.out.free 7
  have p8 := R2.out.cell 8 rfl
  have f8 := R2.out.free 8
  have p9 := R2.out.cell 9 rfl
  have f9 := R2.out.free 9
  have lt := R2.out.lt
  go_wp2_with fail
  clear lt p0 f0 p1 f1 p2 f2 p3 f3 p4 f4 p5 f5 p6 f6 p7 f7 p8 f8 p9 f9
  have NN : Hid (_ ∧ _) := ten R2.out (.int .i64 LC) (.slice none 0 0) (.slice none 0 0) (.slice none 0 0) (.slice none 0 0) (.slice none 0 0) (.slice none 0 0) (.int .i64 0) (.int .i64 0) (.int .i64 0)
  generalize ((((((((((W2.setCell ⟨s + 1, 0, none⟩ (.int .i64 LC)).setCell ⟨s + 1, 1, none⟩ (.slice none 0 0)).setCell ⟨s + 1, 2, none⟩ (.slice none 0 0)).setCell ⟨s + 1, 3, none⟩ (.slice none 0 0)).setCell ⟨s + 1, 4, none⟩ (.slice none 0 0)).setCell ⟨s + 1, 5, none⟩ (.slice none 0 0)).setCell ⟨s + 1, 6, none⟩ (.slice none 0 0)).setCell ⟨s + 1, 7, none⟩ (.int .i64 0)).setCell ⟨s + 1, 8, none⟩ (.int .i64 0)).setCell ⟨s + 1, 9, none⟩ (.int .i64 0)) = W9 at *
  have x0 := NN.out.1.cell 0 rfl
  have x1 := NN.out.1.cell 1 rfl
  have x2 := NN.out.1.cell 2 rfl
  have x3 := NN.out.1.cell 3 rfl
  have x4 := NN.out.1.cell 4 rfl
  have x5 := NN.out.1.cell 5 rfl
  have x6 := NN.out.1.cell 6 rfl
  have x7 := NN.out.1.cell 7 rfl
  have x8 := NN.out.1.cell 8 rfl
  have x9 := NN.out.1.cell 9 rfl
  exact bodyPost_ret (v := .agg #[.int .i64 LC, .slice none 0 0, .slice none 0 0, .slice none 0 0, .slice none 0 0, .slice none 0 0, .slice none 0 0, .int .i64 0, .int .i64 0, .int .i64 0]) (by simp [results, Tryz.results6, go_sem, x0, x1, x2, x3, x4, x5, x6, x7, x8, x9]) rfl ⟨_, _, _, _, _, _, rfl, (ow_void _ _).hq, Mq.under B2.out NN.out.2 fun k e => by have := HSs.out; omega⟩
set_option maxRecDepth 20000 in
set_option maxHeartbeats 8000000 in
theorem sbh_many (a0 a1 a2 a3 : Option Addr) (n0 c0 n1 c1 n2 c2 n3 c3 : Nat) (P : Plc) (ia : Option Addr) (il ic : Nat) (iss : List (List Int)) (ja : Option Addr) (jl jc : Nat) (jss : List (List Int)) (b : Nat) (w : World) (h : Pl w a0 n0 c0 a1 n1 c1 a2 n2 c2 a3 n3 c3 P) (sm : Small n0 n1 n2 n3 P) (hi : IsS2 w ia il ic iss) (hj : SwN w b ja jl jc jss) (hv : loadC P iss = 0) (hl : jss.length ≠ P.own.length) :
    Calls Tryz.prog 6 #[.agg #[.slice a0 n0 c0, .slice a1 n1 c1, .slice a2 n2 c2, .slice a3 n3 c3], .slice ia il ic, .slice ja jl jc] w fun e w' => ∃ v0 v1 v2 v3 v4 v5, e = .returned (.agg #[.int .i64 (bhC P iss jss), v0, v1, v2, v3, v4, v5, .int .i64 (bhX P iss jss).slot, .int .i64 (bhX P iss jss).left, .int .i64 (bhX P iss jss).clock]) ∧ Hq w' w.heap.size v0 v1 v2 v3 v4 v5 (bhX P iss jss) ∧ Below w.heap.size w w' := by
  have hx : bhC P iss jss = 2 := by rw [bhC, if_pos hv, if_neg hl]
  rw [bh_not P iss jss (by rw [hx]; decide), hx]
  have HLC : Hid (loadC P iss = 0) := hv
  have HL : Hid (jss.length ≠ P.own.length) := hl
  clear hx hv hl
  generalize hW : (w.alloc (.cells #[.slice a0 n0 c0, .slice a1 n1 c1, .slice a2 n2 c2, .slice a3 n3 c3] 34)).alloc (.cells #[.int .i64 0, .slice none 0 0, .slice none 0 0, .slice none 0 0, .slice none 0 0, .slice none 0 0, .slice none 0 0, .int .i64 0, .int .i64 0, .int .i64 0] 40) = W
  have B0 : Hid (Below w.heap.size w W) := by show Below _ _ _; rw [← hW]; exact al (al (Below.refl _ _) _) _
  obtain ⟨s, hS⟩ : ∃ s, w.heap.size = s := ⟨_, rfl⟩
  have HSs : Hid (w.heap.size = s) := hS
  have z1 : s + 1 = (w.alloc (.cells #[.slice a0 n0 c0, .slice a1 n1 c1, .slice a2 n2 c2, .slice a3 n3 c3] 34)).heap.size := by rw [← hS]; simp
  have Q : Hid (Vb W s #[.slice a0 n0 c0, .slice a1 n1 c1, .slice a2 n2 c2, .slice a3 n3 c3] 34) := by show Vb _ _ _ _; rw [← hW, ← hS]; exact (Vb.new _ _ _).push _
  have R : Hid (Vb W (s + 1) #[.int .i64 0, .slice none 0 0, .slice none 0 0, .slice none 0 0, .slice none 0 0, .slice none 0 0, .slice none 0 0, .int .i64 0, .int .i64 0, .int .i64 0] 40) := by show Vb _ _ _ _; rw [← hW, z1]; exact Vb.new _ _ _
  have ZW : Hid (s + 2 = W.heap.size) := by show _ = _; rw [← hW, ← hS]; simp
  clear z1
  have D : Hid (Pl W a0 n0 c0 a1 n1 c1 a2 n2 c2 a3 n3 c3 P) := h.stay B0.out
  have SMP : Hid (Small n0 n1 n2 n3 P) := sm
  have N0 : Hid (n0 = P.own.length) := h.own.len
  have NI : Hid (IsS2 W ia il ic iss ∧ SwN W b ja jl jc jss) := ⟨hi.stay B0.out, hj.keep B0.out⟩
  have JL : Hid (jss.length = jl ∧ jl ≤ jc ∧ jc ≤ maxLen) := hj.len
  clear h hi hj sm
  have q0 := Q.out.cell 0 rfl
  have q1 := Q.out.cell 1 rfl
  have q2 := Q.out.cell 2 rfl
  have q3 := Q.out.cell 3 rfl
  go_enter Tryz.func6, Tryz.ntmps6
  go_wp2_with fail
  clear hW hS q0 q1 q2 q3
  refine (s_load _ _ _ _ _ _ _ _ _ _ _ _ P _ _ _ iss _ D.out NI.out.1).mono ?_
  rw [HLC.out]
  rintro e w1 ⟨mv, rfl, nm, b1⟩
  obtain ⟨la, lk, e0, _⟩ := nm.shape
  subst e0
  obtain ⟨ll, hll⟩ : ∃ n, (loadZ P iss).length = n := ⟨_, rfl⟩
  rw [hll] at nm ⊢
  clear hll
  have AL : Hid (Below w1.heap.size w1 (w1.alloc (.cells #[.int .i64 0, .slice la ll lk] 55))) := al (Below.refl _ _) _
  have E2 : Hid (Below W.heap.size W (w1.alloc (.cells #[.int .i64 0, .slice la ll lk] 55))) := al b1 _
  have B2 : Hid (Below w.heap.size w (w1.alloc (.cells #[.int .i64 0, .slice la ll lk] 55))) := on B0.out E2.out
  have R2 : Hid (Vb (w1.alloc (.cells #[.int .i64 0, .slice la ll lk] 55)) (s + 1) #[.int .i64 0, .slice none 0 0, .slice none 0 0, .slice none 0 0, .slice none 0 0, .slice none 0 0, .slice none 0 0, .int .i64 0, .int .i64 0, .int .i64 0] 40) := R.out.keep E2.out
  have Q2 : Hid (Vb (w1.alloc (.cells #[.int .i64 0, .slice la ll lk] 55)) s #[.slice a0 n0 c0, .slice a1 n1 c1, .slice a2 n2 c2, .slice a3 n3 c3] 34) := Q.out.keep E2.out
  have V2 : Hid (Vb (w1.alloc (.cells #[.int .i64 0, .slice la ll lk] 55)) w1.heap.size #[.int .i64 0, .slice la ll lk] 55) := Vb.new _ _ _
  have NM : Hid (Nums (w1.alloc (.cells #[.int .i64 0, .slice la ll lk] 55)) W.heap.size (.slice la ll lk) (loadZ P iss)) := nm.keep AL.out
  have LTs : Hid (s + 2 ≤ w1.heap.size ∧ w1.heap.size + 1 = (w1.alloc (.cells #[.int .i64 0, .slice la ll lk] 55)).heap.size) := ⟨by have := ZW.out; have := b1.size; omega, by simp⟩
  clear nm b1 AL
  go_upto_region 2 with fail
  generalize (w1.alloc (.cells #[.int .i64 0, .slice la ll lk] 55)) = W2 at *
  obtain ⟨t2, ht2⟩ : ∃ t, w1.heap.size = t := ⟨_, rfl⟩
  rw [ht2] at V2 LTs ⊢
  clear ht2
  have v0 := V2.out.cell 0 rfl
  have q0 := Q2.out.cell 0 rfl
  have hne : ¬ (jl : Int) = (n0 : Int) := by have := HL.out; have := N0.out; have := JL.out.1; omega
  have hne2 : ¬ jl = n0 := by omega
  have hjm : (jl : Int) ≤ 9223372036854775807 := by have := JL.out.2; unfold maxLen at this; omega
  have p0 := R2.out.cell 0 rfl
  have f0 := R2.out.free 0
  have p1 := R2.out.cell 1 rfl
  have f1 := R2.out.free 1
  have p2 := R2.out.cell 2 rfl
  have f2 := R2.out.free 2
  have p3 := R2.out.cell 3 rfl
  have f3 := R2.out.free 3
  have p4 := R2.out.cell 4 rfl
  have f4 := R2.out.free 4
  have p5 := R2.out.cell 5 rfl
  have f5 := R2.out.free 5
  have p6 := R2.out.cell 6 rfl
  have f6 := R2.out.free 6
  have p7 := R2.out.cell 7 rfl
  have f7 := R2.out.free 7
  have p8 := R2.out.cell 8 rfl
  have f8 := R2.out.free 8
  have p9 := R2.out.cell 9 rfl
  have f9 := R2.out.free 9
  have lt := R2.out.lt
  go_wp2_with fail
  clear lt p0 f0 p1 f1 p2 f2 p3 f3 p4 f4 p5 f5 p6 f6 p7 f7 p8 f8 p9 f9
  have NN : Hid (_ ∧ _) := ten R2.out (.int .i64 2) (.slice none 0 0) (.slice none 0 0) (.slice none 0 0) (.slice none 0 0) (.slice none 0 0) (.slice none 0 0) (.int .i64 0) (.int .i64 0) (.int .i64 0)
  generalize ((((((((((W2.setCell ⟨s + 1, 0, none⟩ (.int .i64 2)).setCell ⟨s + 1, 1, none⟩ (.slice none 0 0)).setCell ⟨s + 1, 2, none⟩ (.slice none 0 0)).setCell ⟨s + 1, 3, none⟩ (.slice none 0 0)).setCell ⟨s + 1, 4, none⟩ (.slice none 0 0)).setCell ⟨s + 1, 5, none⟩ (.slice none 0 0)).setCell ⟨s + 1, 6, none⟩ (.slice none 0 0)).setCell ⟨s + 1, 7, none⟩ (.int .i64 0)).setCell ⟨s + 1, 8, none⟩ (.int .i64 0)).setCell ⟨s + 1, 9, none⟩ (.int .i64 0)) = W9 at *
  have x0 := NN.out.1.cell 0 rfl
  have x1 := NN.out.1.cell 1 rfl
  have x2 := NN.out.1.cell 2 rfl
  have x3 := NN.out.1.cell 3 rfl
  have x4 := NN.out.1.cell 4 rfl
  have x5 := NN.out.1.cell 5 rfl
  have x6 := NN.out.1.cell 6 rfl
  have x7 := NN.out.1.cell 7 rfl
  have x8 := NN.out.1.cell 8 rfl
  have x9 := NN.out.1.cell 9 rfl
  exact bodyPost_ret (v := .agg #[.int .i64 2, .slice none 0 0, .slice none 0 0, .slice none 0 0, .slice none 0 0, .slice none 0 0, .slice none 0 0, .int .i64 0, .int .i64 0, .int .i64 0]) (by simp [results, Tryz.results6, go_sem, x0, x1, x2, x3, x4, x5, x6, x7, x8, x9]) rfl ⟨_, _, _, _, _, _, rfl, (ow_void _ _).hq, Mq.under B2.out NN.out.2 fun k e => by have := HSs.out; omega⟩
set_option maxRecDepth 20000 in
set_option maxHeartbeats 8000000 in
theorem sbh_run (a0 a1 a2 a3 : Option Addr) (n0 c0 n1 c1 n2 c2 n3 c3 : Nat) (P : Plc) (ia : Option Addr) (il ic : Nat) (iss : List (List Int)) (ja : Option Addr) (jl jc : Nat) (jss : List (List Int)) (b : Nat) (w : World) (h : Pl w a0 n0 c0 a1 n1 c1 a2 n2 c2 a3 n3 c3 P) (sm : Small n0 n1 n2 n3 P) (hi : IsS2 w ia il ic iss) (hj : SwN w b ja jl jc jss) (h3 : 0 < n3 → ∃ g, a3 = some ⟨g, 0, none⟩) (hv : loadC P iss = 0) (hl : jss.length = P.own.length) :
    Calls Tryz.prog 6 #[.agg #[.slice a0 n0 c0, .slice a1 n1 c1, .slice a2 n2 c2, .slice a3 n3 c3], .slice ia il ic, .slice ja jl jc] w fun e w' => ∃ v0 v1 v2 v3 v4 v5, e = .returned (.agg #[.int .i64 (bhC P iss jss), v0, v1, v2, v3, v4, v5, .int .i64 (bhX P iss jss).slot, .int .i64 (bhX P iss jss).left, .int .i64 (bhX P iss jss).clock]) ∧ Hq w' w.heap.size v0 v1 v2 v3 v4 v5 (bhX P iss jss) ∧ Below w.heap.size w w' := by
  have hx : bhC P iss jss = nhC jss := by rw [bhC, if_pos hv, if_pos hl]
  obtain ⟨BC, hBC⟩ : ∃ c, bhC P iss jss = c := ⟨_, rfl⟩
  obtain ⟨BX, hBX⟩ : ∃ c, bhX P iss jss = c := ⟨_, rfl⟩
  have HBX : Hid (bhC P iss jss = BC ∧ bhX P iss jss = BX ∧ nhC jss = BC) := ⟨hBC, hBX, by rw [← hx]; exact hBC⟩
  rw [hBC, hBX]
  have HLC : Hid (loadC P iss = 0) := hv
  have HL : Hid (jss.length = P.own.length) := hl
  have PP : Hid (pfV P = 0) := load_pf hv
  obtain ⟨gp, hgp⟩ := h3 (by rw [h.plan.len]; exact plan_pos (load_pf hv))
  subst hgp
  obtain ⟨LV, hLV⟩ : ∃ z, (P.plan.getD 0 (0, 0)).2 = z := ⟨_, rfl⟩
  have HLV : Hid ((P.plan.getD 0 (0, 0)).2 = LV) := hLV
  clear hx hv hl hBC hBX h3 hLV
  generalize hW : (w.alloc (.cells #[.slice a0 n0 c0, .slice a1 n1 c1, .slice a2 n2 c2, .slice (some ⟨gp, 0, none⟩) n3 c3] 34)).alloc (.cells #[.int .i64 0, .slice none 0 0, .slice none 0 0, .slice none 0 0, .slice none 0 0, .slice none 0 0, .slice none 0 0, .int .i64 0, .int .i64 0, .int .i64 0] 40) = W
  have B0 : Hid (Below w.heap.size w W) := by show Below _ _ _; rw [← hW]; exact al (al (Below.refl _ _) _) _
  obtain ⟨s, hS⟩ : ∃ s, w.heap.size = s := ⟨_, rfl⟩
  have HSs : Hid (w.heap.size = s) := hS
  have z1 : s + 1 = (w.alloc (.cells #[.slice a0 n0 c0, .slice a1 n1 c1, .slice a2 n2 c2, .slice (some ⟨gp, 0, none⟩) n3 c3] 34)).heap.size := by rw [← hS]; simp
  have Q : Hid (Vb W s #[.slice a0 n0 c0, .slice a1 n1 c1, .slice a2 n2 c2, .slice (some ⟨gp, 0, none⟩) n3 c3] 34) := by show Vb _ _ _ _; rw [← hW, ← hS]; exact (Vb.new _ _ _).push _
  have R : Hid (Vb W (s + 1) #[.int .i64 0, .slice none 0 0, .slice none 0 0, .slice none 0 0, .slice none 0 0, .slice none 0 0, .slice none 0 0, .int .i64 0, .int .i64 0, .int .i64 0] 40) := by show Vb _ _ _ _; rw [← hW, z1]; exact Vb.new _ _ _
  have ZW : Hid (s + 2 = W.heap.size) := by show _ = _; rw [← hW, ← hS]; simp
  clear z1
  have D : Hid (Pl W a0 n0 c0 a1 n1 c1 a2 n2 c2 (some ⟨gp, 0, none⟩) n3 c3 P) := h.stay B0.out
  have SMP : Hid (Small n0 n1 n2 n3 P) := sm
  have N0 : Hid (n0 = P.own.length) := h.own.len
  have NI : Hid (IsS2 W ia il ic iss ∧ SwN W b ja jl jc jss) := ⟨hi.stay B0.out, hj.keep B0.out⟩
  have JL : Hid (jss.length = jl ∧ jl ≤ jc ∧ jc ≤ maxLen) := hj.len
  clear h hi hj sm
  have q0 := Q.out.cell 0 rfl
  have q1 := Q.out.cell 1 rfl
  have q2 := Q.out.cell 2 rfl
  have q3 := Q.out.cell 3 rfl
  go_enter Tryz.func6, Tryz.ntmps6
  go_wp2_with fail
  clear hW hS q0 q1 q2 q3
  refine (s_load _ _ _ _ _ _ _ _ _ _ _ _ P _ _ _ iss _ D.out NI.out.1).mono ?_
  rw [HLC.out]
  rintro e w1 ⟨mv, rfl, nm, b1⟩
  obtain ⟨la, lk, e0, _⟩ := nm.shape
  subst e0
  obtain ⟨ll, hll⟩ : ∃ n, (loadZ P iss).length = n := ⟨_, rfl⟩
  rw [hll] at nm ⊢
  clear hll
  have AL : Hid (Below w1.heap.size w1 (w1.alloc (.cells #[.int .i64 0, .slice la ll lk] 55))) := al (Below.refl _ _) _
  have E2 : Hid (Below W.heap.size W (w1.alloc (.cells #[.int .i64 0, .slice la ll lk] 55))) := al b1 _
  have B2 : Hid (Below w.heap.size w (w1.alloc (.cells #[.int .i64 0, .slice la ll lk] 55))) := on B0.out E2.out
  have R2 : Hid (Vb (w1.alloc (.cells #[.int .i64 0, .slice la ll lk] 55)) (s + 1) #[.int .i64 0, .slice none 0 0, .slice none 0 0, .slice none 0 0, .slice none 0 0, .slice none 0 0, .slice none 0 0, .int .i64 0, .int .i64 0, .int .i64 0] 40) := R.out.keep E2.out
  have Q2 : Hid (Vb (w1.alloc (.cells #[.int .i64 0, .slice la ll lk] 55)) s #[.slice a0 n0 c0, .slice a1 n1 c1, .slice a2 n2 c2, .slice (some ⟨gp, 0, none⟩) n3 c3] 34) := Q.out.keep E2.out
  have V2 : Hid (Vb (w1.alloc (.cells #[.int .i64 0, .slice la ll lk] 55)) w1.heap.size #[.int .i64 0, .slice la ll lk] 55) := Vb.new _ _ _
  have NM : Hid (Nums (w1.alloc (.cells #[.int .i64 0, .slice la ll lk] 55)) W.heap.size (.slice la ll lk) (loadZ P iss)) := nm.keep AL.out
  have LTs : Hid (s + 2 ≤ w1.heap.size ∧ w1.heap.size + 1 = (w1.alloc (.cells #[.int .i64 0, .slice la ll lk] 55)).heap.size) := ⟨by have := ZW.out; have := b1.size; omega, by simp⟩
  clear nm b1 AL
  go_upto_region 2 with fail
  generalize (w1.alloc (.cells #[.int .i64 0, .slice la ll lk] 55)) = W2 at *
  obtain ⟨t2, ht2⟩ : ∃ t, w1.heap.size = t := ⟨_, rfl⟩
  rw [ht2] at V2 LTs ⊢
  clear ht2
  have v0 := V2.out.cell 0 rfl
  have q0 := Q2.out.cell 0 rfl
  have hne : (jl : Int) = (n0 : Int) := by have := HL.out; have := N0.out; have := JL.out.1; omega
  have hne2 : jl = n0 := by omega
  have hjm : (jl : Int) ≤ 9223372036854775807 := by have := JL.out.2; unfold maxLen at this; omega
  rw [← hne2] at Q2 D SMP N0 q0 ⊢
  clear hne hne2
  go_upto_region 6 with fail
  clear v0 q0
  have P0 : Hid (0 < n3 ∧ (n3 : Int) ≤ 1048576) := ⟨by rw [D.out.plan.len]; exact plan_pos PP.out, by have := SMP.out.plan; omega⟩
  have PK : Hid (W2.cell? ⟨gp, 1, none⟩ = some (.int .i64 LV)) := by
    rcases D.out.plan.stay E2.out with ⟨h1, _⟩ | ⟨x, h1, _, _, h4, h5⟩
    · cases h1
    · cases h1
      have := (h5 0 P0.out.1).2
      rw [HLV.out, Addr.add_lit] at this
      exact this
  go_cut [8] from 27 to 36 (fun c wx => ∃ (q : Nat) (b0 b1a b2a b3 : Option Addr) (m0 g0 m1 g1 m2 g2 m3 g3 : Nat), c = .pointer (some ⟨q, 0, none⟩) ∧ Vb wx q #[.slice b0 m0 g0, .slice b1a m1 g1, .slice b2a m2 g2, .slice b3 m3 g3, .slice la ll lk, .slice none 0 0, .int .i64 0, .int .i64 LV, .int .i64 0] 38 ∧ WqE wx W2.heap.size (.slice b0 m0 g0) (.slice b1a m1 g1) (.slice b2a m2 g2) (.slice b3 m3 g3) P ∧ W2.heap.size ≤ q ∧ Below W2.heap.size W2 wx)
  case first =>
    have SU : Hid (Below W2.heap.size W2 W2.drew) := (Below.refl _ _).drew
    refine wp_region_held (S := fun w' => Below W2.heap.size W2 w') (by kernel_rfl) ?_
    change wpAnyH _ _ _ _ _ _ _ _ (World.drew _)
    generalize W2.drew = u0 at *
    refine wpAnyH_take (i := 0) (v := (.agg #[.slice a0 jl c0, .slice a1 n1 c1, .slice a2 n2 c2, .slice (some ⟨gp, 0, none⟩) n3 c3])) rfl (by kernel_rfl) (by kernel_rfl) (by kernel_rfl) (fun _ _ _ h => h) (Or.inl ⟨by rfl, fun w' hs => by have qv := Q2.out.keep hs; have y0 := qv.cell 0 rfl; have y1 := qv.cell 1 rfl; have y2 := qv.cell 2 rfl; have y3 := qv.cell 3 rfl; go_simp⟩) SU.out ?_
    change wpAnyH _ _ _ _ _ _ _ (Act.put _ (some 27) _) _
    simp only [Act.put, List.setIfInBounds_toArray, List.set_cons_zero, List.set_cons_succ]
    refine wpAnyH_take (i := 2) (v := (.pointer (some ⟨t2, 1, none⟩))) rfl (by kernel_rfl) (by kernel_rfl) (by kernel_rfl) (fun _ _ _ h => h) (Or.inl ⟨by rfl, fun w' hs => by go_simp⟩) SU.out ?_
    change wpAnyH _ _ _ _ _ _ _ (Act.put _ (some 29) _) _
    simp only [Act.put, List.setIfInBounds_toArray, List.set_cons_zero, List.set_cons_succ]
    refine wpAnyH_take (i := 3) (v := (.slice la ll lk)) rfl (by kernel_rfl) (by kernel_rfl) (by kernel_rfl) (fun _ _ _ h => h) (Or.inl ⟨by rfl, fun w' hs => by have y := (V2.out.keep hs).cell 1 rfl; go_simp⟩) SU.out ?_
    change wpAnyH _ _ _ _ _ _ _ (Act.put _ (some 30) _) _
    simp only [Act.put, List.setIfInBounds_toArray, List.set_cons_zero, List.set_cons_succ]
    refine wpAnyH_take (i := 4) (v := (.pointer (some ⟨s, 3, none⟩))) rfl (by kernel_rfl) (by kernel_rfl) (by kernel_rfl) (fun _ _ _ h => h) (Or.inl ⟨by rfl, fun w' hs => by go_simp⟩) SU.out ?_
    change wpAnyH _ _ _ _ _ _ _ (Act.put _ (some 31) _) _
    simp only [Act.put, List.setIfInBounds_toArray, List.set_cons_zero, List.set_cons_succ]
    refine wpAnyH_take (i := 5) (v := (.slice (some ⟨gp, 0, none⟩) n3 c3)) rfl (by kernel_rfl) (by kernel_rfl) (by kernel_rfl) (fun _ _ _ h => h) (Or.inl ⟨by rfl, fun w' hs => by have y := (Q2.out.keep hs).cell 3 rfl; go_simp⟩) SU.out ?_
    change wpAnyH _ _ _ _ _ _ _ (Act.put _ (some 32) _) _
    simp only [Act.put, List.setIfInBounds_toArray, List.set_cons_zero, List.set_cons_succ]
    refine wpAnyH_take (i := 6) (v := (.pointer (some ⟨gp, 0, none⟩))) rfl (by kernel_rfl) (by kernel_rfl) (by kernel_rfl) (fun _ _ _ h => h) (Or.inl ⟨by rfl, fun w' hs => by have i3 : ¬ n3 = 0 := (by have := P0.out.1; omega); have i1 : (0 : Int) < (n3 : Int) := (by omega); have i2 := P0.out.2; go_simp⟩) SU.out ?_
    change wpAnyH _ _ _ _ _ _ _ (Act.put _ (some 33) _) _
    simp only [Act.put, List.setIfInBounds_toArray, List.set_cons_zero, List.set_cons_succ]
    refine wpAnyH_take (i := 7) (v := (.pointer (some ⟨gp, 1, none⟩))) rfl (by kernel_rfl) (by kernel_rfl) (by kernel_rfl) (fun _ _ _ h => h) (Or.inl ⟨by rfl, fun w' hs => by go_simp⟩) SU.out ?_
    change wpAnyH _ _ _ _ _ _ _ (Act.put _ (some 34) _) _
    simp only [Act.put, List.setIfInBounds_toArray, List.set_cons_zero, List.set_cons_succ]
    refine wpAnyH_take (i := 8) (v := (.int .i64 LV)) rfl (by kernel_rfl) (by kernel_rfl) (by kernel_rfl) (fun _ _ _ h => h) (Or.inl ⟨by rfl, fun w' hs => by have y := cell_keep hs PK.out; go_simp⟩) SU.out ?_
    change wpAnyH _ _ _ _ _ _ _ (Act.put _ (some 35) _) _
    simp only [Act.put, List.setIfInBounds_toArray, List.set_cons_zero, List.set_cons_succ]
    refine wpAnyH_ready (rs := [1, 10]) (by kernel_rfl) (by simp) ?_
    refine AllReadyH.cons rfl (fun K hK => ?_) (AllReadyH.cons rfl (fun K hK => ?_) AllReadyH.nil)
    · skip
      rw [if_pos (by rfl)]
      go_simp
      refine (s_policy12 _ _ _ _ _ _ _ _ _ _ _ _ P _ ((D.out.stay E2.out).stay SU.out) SMP.out).mono ?_
      rintro e u1 ⟨_, _, _, _, rfl, wq, bq⟩
      obtain ⟨b0, b1a, b2a, b3, g0, g1, g2, g3, e0, e1, e2, e3⟩ := wq_shapes wq
      subst e0 e1 e2 e3
      obtain ⟨m0, hm0⟩ : ∃ n, P.own.length = n := ⟨_, rfl⟩
      obtain ⟨m1, hm1⟩ : ∃ n, P.lanes.length = n := ⟨_, rfl⟩
      obtain ⟨m2, hm2⟩ : ∃ n, P.bells.length = n := ⟨_, rfl⟩
      obtain ⟨m3, hm3⟩ : ∃ n, P.plan.length = n := ⟨_, rfl⟩
      rw [hm0, hm1, hm2, hm3] at wq ⊢
      have WQ : Hid (WqE u1 W2.heap.size (.slice b0 m0 g0) (.slice b1a m1 g1) (.slice b2a m2 g2) (.slice b3 m3 g3) P) := ⟨wq.own.mono SU.out.size, row_monoX wq.lanes SU.out.size, row_monoX wq.bells SU.out.size, row_monoX wq.plan SU.out.size⟩
      replace SU : Hid (Below W2.heap.size W2 u1) := on SU.out bq
      clear wq bq hm0 hm1 hm2 hm3
      refine hK.out _ _ SU.out (fun _ => ?_)
      clear hK K
      refine wpAnyH_take (i := 9) (v := (.agg #[.slice b0 m0 g0, .slice b1a m1 g1, .slice b2a m2 g2, .slice b3 m3 g3, .slice la ll lk, .slice none 0 0, .int .i64 0, .int .i64 LV, .int .i64 0])) rfl (by kernel_rfl) (by kernel_rfl) (by kernel_rfl) (fun _ _ _ h => h) (Or.inl ⟨by rfl, fun w' hs => by go_simp⟩) SU.out ?_
      change wpAnyH _ _ _ _ _ _ _ (Act.put _ (some 36) _) _
      simp only [Act.put, List.setIfInBounds_toArray, List.set_cons_zero, List.set_cons_succ]
      refine wpAnyH_ready (rs := [10]) (by kernel_rfl) (by simp) ?_
      refine AllReadyH.cons rfl (fun K hK => ?_) AllReadyH.nil
      rw [if_pos (by rfl)]
      go_simp
      have bq : Below u1.heap.size u1 (u1.alloc (.cells #[.slice none 0 0, .slice none 0 0, .slice none 0 0, .slice none 0 0, .slice none 0 0, .slice none 0 0, .int .i64 0, .int .i64 0, .int .i64 0] 38)) := al (Below.refl _ _) _
      have TQ : Hid (Vb (u1.alloc (.cells #[.slice none 0 0, .slice none 0 0, .slice none 0 0, .slice none 0 0, .slice none 0 0, .slice none 0 0, .int .i64 0, .int .i64 0, .int .i64 0] 38)) u1.heap.size #[.slice none 0 0, .slice none 0 0, .slice none 0 0, .slice none 0 0, .slice none 0 0, .slice none 0 0, .int .i64 0, .int .i64 0, .int .i64 0] 38) := Vb.new _ _ _
      obtain ⟨q, hq⟩ : ∃ q, u1.heap.size = q := ⟨_, rfl⟩
      have QB : Hid (W2.heap.size ≤ q) := by show _ ≤ _; rw [← hq]; exact SU.out.size
      rw [hq] at TQ ⊢
      generalize u1.alloc (.cells #[.slice none 0 0, .slice none 0 0, .slice none 0 0, .slice none 0 0, .slice none 0 0, .slice none 0 0, .int .i64 0, .int .i64 0, .int .i64 0] 38) = u2 at *
      replace WQ : Hid (WqE u2 W2.heap.size (.slice b0 m0 g0) (.slice b1a m1 g1) (.slice b2a m2 g2) (.slice b3 m3 g3) P) := WQ.out.keep bq
      replace SU : Hid (Below W2.heap.size W2 u2) := on SU.out bq
      clear bq hq
      refine hK.out _ _ SU.out (fun _ => ?_)
      clear hK K
      refine wpAnyH_ready (rs := [11]) (by kernel_rfl) (by simp) ?_
      refine AllReadyH.cons rfl (fun K hK => ?_) AllReadyH.nil
      rw [if_pos (by rfl)]
      refine wp_store_mid 38 (.tmp 8) (.tmp 36) rfl q 0 #[.slice b0 m0 g0, .slice b1a m1 g1, .slice b2a m2 g2, .slice b3 m3 g3, .slice la ll lk, .slice none 0 0, .int .i64 0, .int .i64 LV, .int .i64 0] rfl rfl (TQ.out.there 9 (by decide)) (by kernel_rfl) (by simp [Value.oneCell']) ?_
      change K (Act.put _ none undef) _
      simp only [Act.put]
      have NR : Hid (Vb (u2.setCells q 0 #[.slice b0 m0 g0, .slice b1a m1 g1, .slice b2a m2 g2, .slice b3 m3 g3, .slice la ll lk, .slice none 0 0, .int .i64 0, .int .i64 LV, .int .i64 0].toList) q #[.slice b0 m0 g0, .slice b1a m1 g1, .slice b2a m2 g2, .slice b3 m3 g3, .slice la ll lk, .slice none 0 0, .int .i64 0, .int .i64 LV, .int .i64 0] 38 ∧ Mq (fun k => k = q) u2 (u2.setCells q 0 #[.slice b0 m0 g0, .slice b1a m1 g1, .slice b2a m2 g2, .slice b3 m3 g3, .slice la ll lk, .slice none 0 0, .int .i64 0, .int .i64 LV, .int .i64 0].toList)) := nineX TQ.out _ _ _ _ _ _ _ _ _
      have KY : Ky (some 38) u2 (u2.setCells q 0 #[.slice b0 m0 g0, .slice b1a m1 g1, .slice b2a m2 g2, .slice b3 m3 g3, .slice la ll lk, .slice none 0 0, .int .i64 0, .int .i64 LV, .int .i64 0].toList) := ky_set TQ.out NR.out.2
      have W9 : Hid (WqE (u2.setCells q 0 #[.slice b0 m0 g0, .slice b1a m1 g1, .slice b2a m2 g2, .slice b3 m3 g3, .slice la ll lk, .slice none 0 0, .int .i64 0, .int .i64 LV, .int .i64 0].toList) W2.heap.size (.slice b0 m0 g0) (.slice b1a m1 g1) (.slice b2a m2 g2) (.slice b3 m3 g3) P) := WQ.out.ky KY (by decide) (by decide) (by decide) (by decide) (by decide)
      have B9 : Hid (Below W2.heap.size W2 (u2.setCells q 0 #[.slice b0 m0 g0, .slice b1a m1 g1, .slice b2a m2 g2, .slice b3 m3 g3, .slice la ll lk, .slice none 0 0, .int .i64 0, .int .i64 LV, .int .i64 0].toList)) := Mq.under SU.out NR.out.2 fun k e => by have := QB.out; omega
      clear KY
      generalize (u2.setCells q 0 #[.slice b0 m0 g0, .slice b1a m1 g1, .slice b2a m2 g2, .slice b3 m3 g3, .slice la ll lk, .slice none 0 0, .int .i64 0, .int .i64 LV, .int .i64 0].toList) = V9 at *
      refine hK.out _ _ B9.out (fun _ => ?_)
      clear hK K
      refine wpAnyH_done (by kernel_rfl) ?_ _
      go_wp2_with fail
      go_meet
      exact ⟨q, _, _, _, _, _, _, _, _, _, _, _, _, rfl, NR.out.1, W9.out, QB.out, B9.out⟩
    · skip
      rw [if_pos (by rfl)]
      go_simp
      have bq : Below u0.heap.size u0 (u0.alloc (.cells #[.slice none 0 0, .slice none 0 0, .slice none 0 0, .slice none 0 0, .slice none 0 0, .slice none 0 0, .int .i64 0, .int .i64 0, .int .i64 0] 38)) := al (Below.refl _ _) _
      have TQ : Hid (Vb (u0.alloc (.cells #[.slice none 0 0, .slice none 0 0, .slice none 0 0, .slice none 0 0, .slice none 0 0, .slice none 0 0, .int .i64 0, .int .i64 0, .int .i64 0] 38)) u0.heap.size #[.slice none 0 0, .slice none 0 0, .slice none 0 0, .slice none 0 0, .slice none 0 0, .slice none 0 0, .int .i64 0, .int .i64 0, .int .i64 0] 38) := Vb.new _ _ _
      obtain ⟨q, hq⟩ : ∃ q, u0.heap.size = q := ⟨_, rfl⟩
      have QB : Hid (W2.heap.size ≤ q) := by show _ ≤ _; rw [← hq]; exact SU.out.size
      rw [hq] at TQ ⊢
      generalize u0.alloc (.cells #[.slice none 0 0, .slice none 0 0, .slice none 0 0, .slice none 0 0, .slice none 0 0, .slice none 0 0, .int .i64 0, .int .i64 0, .int .i64 0] 38) = u1 at *
      replace SU : Hid (Below W2.heap.size W2 u1) := on SU.out bq
      clear bq hq
      refine hK.out _ _ SU.out (fun _ => ?_)
      clear hK K
      refine wpAnyH_ready (rs := [1]) (by kernel_rfl) (by simp) ?_
      refine AllReadyH.cons rfl (fun K hK => ?_) AllReadyH.nil
      rw [if_pos (by rfl)]
      go_simp
      refine (s_policy12 _ _ _ _ _ _ _ _ _ _ _ _ P _ ((D.out.stay E2.out).stay SU.out) SMP.out).mono ?_
      rintro e u2 ⟨_, _, _, _, rfl, wq, bq⟩
      obtain ⟨b0, b1a, b2a, b3, g0, g1, g2, g3, e0, e1, e2, e3⟩ := wq_shapes wq
      subst e0 e1 e2 e3
      obtain ⟨m0, hm0⟩ : ∃ n, P.own.length = n := ⟨_, rfl⟩
      obtain ⟨m1, hm1⟩ : ∃ n, P.lanes.length = n := ⟨_, rfl⟩
      obtain ⟨m2, hm2⟩ : ∃ n, P.bells.length = n := ⟨_, rfl⟩
      obtain ⟨m3, hm3⟩ : ∃ n, P.plan.length = n := ⟨_, rfl⟩
      rw [hm0, hm1, hm2, hm3] at wq ⊢
      have WQ : Hid (WqE u2 W2.heap.size (.slice b0 m0 g0) (.slice b1a m1 g1) (.slice b2a m2 g2) (.slice b3 m3 g3) P) := ⟨wq.own.mono SU.out.size, row_monoX wq.lanes SU.out.size, row_monoX wq.bells SU.out.size, row_monoX wq.plan SU.out.size⟩
      replace TQ : Hid (Vb u2 q #[.slice none 0 0, .slice none 0 0, .slice none 0 0, .slice none 0 0, .slice none 0 0, .slice none 0 0, .int .i64 0, .int .i64 0, .int .i64 0] 38) := TQ.out.keep bq
      replace SU : Hid (Below W2.heap.size W2 u2) := on SU.out bq
      clear wq bq hm0 hm1 hm2 hm3
      refine hK.out _ _ SU.out (fun _ => ?_)
      clear hK K
      refine wpAnyH_take (i := 9) (v := (.agg #[.slice b0 m0 g0, .slice b1a m1 g1, .slice b2a m2 g2, .slice b3 m3 g3, .slice la ll lk, .slice none 0 0, .int .i64 0, .int .i64 LV, .int .i64 0])) rfl (by kernel_rfl) (by kernel_rfl) (by kernel_rfl) (fun _ _ _ h => h) (Or.inl ⟨by rfl, fun w' hs => by go_simp⟩) SU.out ?_
      change wpAnyH _ _ _ _ _ _ _ (Act.put _ (some 36) _) _
      simp only [Act.put, List.setIfInBounds_toArray, List.set_cons_zero, List.set_cons_succ]
      refine wpAnyH_ready (rs := [11]) (by kernel_rfl) (by simp) ?_
      refine AllReadyH.cons rfl (fun K hK => ?_) AllReadyH.nil
      rw [if_pos (by rfl)]
      refine wp_store_mid 38 (.tmp 8) (.tmp 36) rfl q 0 #[.slice b0 m0 g0, .slice b1a m1 g1, .slice b2a m2 g2, .slice b3 m3 g3, .slice la ll lk, .slice none 0 0, .int .i64 0, .int .i64 LV, .int .i64 0] rfl rfl (TQ.out.there 9 (by decide)) (by kernel_rfl) (by simp [Value.oneCell']) ?_
      change K (Act.put _ none undef) _
      simp only [Act.put]
      have NR : Hid (Vb (u2.setCells q 0 #[.slice b0 m0 g0, .slice b1a m1 g1, .slice b2a m2 g2, .slice b3 m3 g3, .slice la ll lk, .slice none 0 0, .int .i64 0, .int .i64 LV, .int .i64 0].toList) q #[.slice b0 m0 g0, .slice b1a m1 g1, .slice b2a m2 g2, .slice b3 m3 g3, .slice la ll lk, .slice none 0 0, .int .i64 0, .int .i64 LV, .int .i64 0] 38 ∧ Mq (fun k => k = q) u2 (u2.setCells q 0 #[.slice b0 m0 g0, .slice b1a m1 g1, .slice b2a m2 g2, .slice b3 m3 g3, .slice la ll lk, .slice none 0 0, .int .i64 0, .int .i64 LV, .int .i64 0].toList)) := nineX TQ.out _ _ _ _ _ _ _ _ _
      have KY : Ky (some 38) u2 (u2.setCells q 0 #[.slice b0 m0 g0, .slice b1a m1 g1, .slice b2a m2 g2, .slice b3 m3 g3, .slice la ll lk, .slice none 0 0, .int .i64 0, .int .i64 LV, .int .i64 0].toList) := ky_set TQ.out NR.out.2
      have W9 : Hid (WqE (u2.setCells q 0 #[.slice b0 m0 g0, .slice b1a m1 g1, .slice b2a m2 g2, .slice b3 m3 g3, .slice la ll lk, .slice none 0 0, .int .i64 0, .int .i64 LV, .int .i64 0].toList) W2.heap.size (.slice b0 m0 g0) (.slice b1a m1 g1) (.slice b2a m2 g2) (.slice b3 m3 g3) P) := WQ.out.ky KY (by decide) (by decide) (by decide) (by decide) (by decide)
      have B9 : Hid (Below W2.heap.size W2 (u2.setCells q 0 #[.slice b0 m0 g0, .slice b1a m1 g1, .slice b2a m2 g2, .slice b3 m3 g3, .slice la ll lk, .slice none 0 0, .int .i64 0, .int .i64 LV, .int .i64 0].toList)) := Mq.under SU.out NR.out.2 fun k e => by have := QB.out; omega
      clear KY
      generalize (u2.setCells q 0 #[.slice b0 m0 g0, .slice b1a m1 g1, .slice b2a m2 g2, .slice b3 m3 g3, .slice la ll lk, .slice none 0 0, .int .i64 0, .int .i64 LV, .int .i64 0].toList) = V9 at *
      refine hK.out _ _ B9.out (fun _ => ?_)
      clear hK K
      refine wpAnyH_done (by kernel_rfl) ?_ _
      go_wp2_with fail
      go_meet
      exact ⟨q, _, _, _, _, _, _, _, _, _, _, _, _, rfl, NR.out.1, W9.out, QB.out, B9.out⟩
  case rest =>
  obtain ⟨q, b0, b1a, b2a, b3, m0, g0, m1, g1, m2, g2, m3, g3, rfl, hV, hQ, hq, hB⟩ := hcut
  obtain ⟨V, hVw⟩ : ∃ V, V = wc := ⟨_, rfl⟩
  subst hVw
  have VV : Hid (Vb V q #[.slice b0 m0 g0, .slice b1a m1 g1, .slice b2a m2 g2, .slice b3 m3 g3, .slice la ll lk, .slice none 0 0, .int .i64 0, .int .i64 LV, .int .i64 0] 38) := hV
  have WQ : Hid (WqE V W2.heap.size (.slice b0 m0 g0) (.slice b1a m1 g1) (.slice b2a m2 g2) (.slice b3 m3 g3) P) := hQ
  have QB : Hid (W2.heap.size ≤ q ∧ q < V.heap.size) := ⟨hq, hV.lt⟩
  have BV : Hid (Below W2.heap.size W2 V) := hB
  clear hV hQ hq hB
  go_wp2_with fail
  go_loopw [9, 10] (fun c _ wr => ∃ (j : Nat) (v : Value) (qs : List (V4 × Ht)), j ≤ jl ∧ c = .int .i64 (j : Int) ∧ Vb wr q #[.slice b0 m0 g0, .slice b1a m1 g1, .slice b2a m2 g2, .slice b3 m3 g3, .slice la ll lk, v, .int .i64 0, .int .i64 LV, .int .i64 0] 38 ∧ WqE wr W2.heap.size (.slice b0 m0 g0) (.slice b1a m1 g1) (.slice b2a m2 g2) (.slice b3 m3 g3) P ∧ Mw wr V.heap.size v jss j qs ∧ Hid (nhC jss = nhC (jss.drop j)) ∧ Below W2.heap.size W2 wr ∧ V.heap.size ≤ wr.heap.size) (fun c _ _ => jl - (intOf c).toNat)
  case atStart => exact ⟨0, .slice none 0 0, [], Nat.zero_le _, rfl, VV.out, WQ.out, ⟨rfl, World.ownsRow_nil _ _ _ _, fun i q e => by simp at e, by simp⟩, rfl, BV.out, Nat.le_refl _⟩
  case round =>
    obtain ⟨j, v, qs, hj, rfl, hX, hW, hM, HD, hB, hZ⟩ := hrel
    obtain ⟨va, vc, hv⟩ := row_shape hM.row
    rw [hM.len] at hv
    subst hv
    have HX : Hid (Vb wr q #[.slice b0 m0 g0, .slice b1a m1 g1, .slice b2a m2 g2, .slice b3 m3 g3, .slice la ll lk, .slice va j vc, .int .i64 0, .int .i64 LV, .int .i64 0] 38) := hX
    have HW : Hid (WqE wr W2.heap.size (.slice b0 m0 g0) (.slice b1a m1 g1) (.slice b2a m2 g2) (.slice b3 m3 g3) P) := hW
    have HM : Hid (Mw wr V.heap.size (.slice va j vc) jss j qs) := hM
    have HB : Hid (Below W2.heap.size W2 wr ∧ V.heap.size ≤ wr.heap.size) := ⟨hB, hZ⟩
    clear hX hW hM hZ
    by_cases hlt : j < jl
    · have hI : (j : Int) < (jl : Int) := by omega
      have HLT : Hid (j < jl) := hlt
      obtain ⟨gj, hgj, _, _, _, hrow⟩ : ∃ g, ja = some ⟨g, 0, none⟩ ∧ jl ≤ jc ∧ jc ≤ maxLen ∧ jss.length = jl ∧ ∀ i, i < jl → ∃ x l k, wr.cell? ⟨g, i, none⟩ = some (.slice x l k) ∧ Nums wr b (.slice x l k) (jss.getD i []) := by
        rcases (NI.out.2.keep E2.out).keep hB with ⟨_, h0, _, _⟩ | h
        · omega
        · exact h
      subst hgj
      obtain ⟨rx, rl, rk, k1, k2⟩ := hrow j hlt
      obtain ⟨zs, hzs⟩ : ∃ z, jss.getD j [] = z := ⟨_, rfl⟩
      have HZS : Hid (jss.getD j [] = zs) := hzs
      rw [hzs] at k2
      have KN : Hid (Nums wr b (.slice rx rl rk) zs) := k2
      clear hlt hB k2 hrow hzs
      go_wp2_with fail
      clear k1
      refine (s_newHart8 _ zs b _ KN.out).mono ?_
      rintro e w3 ⟨rv, cv, iv, ov, rfl, hm, ha, b3'⟩
      obtain ⟨da, dk, e0, _⟩ := hm.r.shape
      obtain ⟨db, dl, e1, _⟩ := hm.c.shape
      obtain ⟨dc, dm, e2, _⟩ := hm.i.shape
      obtain ⟨dd, dn, e3, _⟩ := hm.o.shape
      subst e0 e1 e2 e3
      obtain ⟨CX, hCX⟩ : ∃ c, (newR zs).1 = c := ⟨_, rfl⟩
      obtain ⟨H, hH⟩ : ∃ c, (newR zs).2 = c := ⟨_, rfl⟩
      rw [hCX, hH]
      rw [hH] at hm ha
      obtain ⟨d0, hd0⟩ : ∃ n, H.regs.length = n := ⟨_, rfl⟩
      obtain ⟨d1, hd1⟩ : ∃ n, H.csr.length = n := ⟨_, rfl⟩
      obtain ⟨d2, hd2⟩ : ∃ n, H.inn.length = n := ⟨_, rfl⟩
      obtain ⟨d3, hd3⟩ : ∃ n, H.out.length = n := ⟨_, rfl⟩
      rw [hd0, hd1, hd2, hd3] at hm ha ⊢
      have HCH : Hid ((newR zs).1 = CX ∧ (newR zs).2 = H) := ⟨hCX, hH⟩
      clear hd0 hd1 hd2 hd3 hCX hH
      have AL : Hid (Below w3.heap.size w3 (w3.alloc (.cells #[.int .i64 CX, .slice da d0 dk, .int .i64 H.pc, .slice db d1 dl, .bool H.halted, .bool H.waiting, .bool H.rung, .int .i64 H.done, .slice dc d2 dm, .slice dd d3 dn] 63))) := al (Below.refl _ _) _
      have E3 : Hid (Below wr.heap.size wr (w3.alloc (.cells #[.int .i64 CX, .slice da d0 dk, .int .i64 H.pc, .slice db d1 dl, .bool H.halted, .bool H.waiting, .bool H.rung, .int .i64 H.done, .slice dc d2 dm, .slice dd d3 dn] 63))) := al b3' _
      have V3 : Hid (Vb (w3.alloc (.cells #[.int .i64 CX, .slice da d0 dk, .int .i64 H.pc, .slice db d1 dl, .bool H.halted, .bool H.waiting, .bool H.rung, .int .i64 H.done, .slice dc d2 dm, .slice dd d3 dn] 63)) w3.heap.size #[.int .i64 CX, .slice da d0 dk, .int .i64 H.pc, .slice db d1 dl, .bool H.halted, .bool H.waiting, .bool H.rung, .int .i64 H.done, .slice dc d2 dm, .slice dd d3 dn] 63) := Vb.new _ _ _
      have HM3 : Hid (Hm (w3.alloc (.cells #[.int .i64 CX, .slice da d0 dk, .int .i64 H.pc, .slice db d1 dl, .bool H.halted, .bool H.waiting, .bool H.rung, .int .i64 H.done, .slice dc d2 dm, .slice dd d3 dn] 63)) wr.heap.size (.slice da d0 dk) (.slice db d1 dl) (.slice dc d2 dm) (.slice dd d3 dn) H ∧ Ha (.slice da d0 dk) (.slice db d1 dl) (.slice dc d2 dm) (.slice dd d3 dn)) := ⟨hm.keep AL.out, ha⟩
      clear hm ha b3' AL
      go_upto_region 11 with fail
      generalize (w3.alloc (.cells #[.int .i64 CX, .slice da d0 dk, .int .i64 H.pc, .slice db d1 dl, .bool H.halted, .bool H.waiting, .bool H.rung, .int .i64 H.done, .slice dc d2 dm, .slice dd d3 dn] 63)) = W3 at *
      generalize w3.heap.size = t3 at *
      have v0 := V3.out.cell 0 rfl
      by_cases hc0 : CX = 0
      · subst hc0
        have HOK : Hid (H = newV (jss.getD j [])) := by
          have h1 := HCH.out.1
          have h2 := HCH.out.2
          rw [HZS.out, ← h2]
          unfold newR at h1 ⊢
          split at h1
          · cases h1
          rename_i hq
          rw [if_neg hq]
          cases ew : zs.all isW with
          | false => rw [ew] at h1; cases h1
          | true => rfl
        have ND : Hid (nhC jss = nhC (jss.drop (j + 1))) := by
          show _ = _
          rw [HD.out]
          exact nh_drop jss j (by have := HLT.out; have := JL.out.1; omega) (by rw [HZS.out]; exact HCH.out.1)
        have X3 : Hid (Vb W3 q #[.slice b0 m0 g0, .slice b1a m1 g1, .slice b2a m2 g2, .slice b3 m3 g3, .slice la ll lk, .slice va j vc, .int .i64 0, .int .i64 LV, .int .i64 0] 38) := HX.out.keep E3.out
        have x5 := X3.out.cell 5 rfl
        have v1 := V3.out.cell 1 rfl
        have v2 := V3.out.cell 2 rfl
        have v3 := V3.out.cell 3 rfl
        have v4 := V3.out.cell 4 rfl
        have v5 := V3.out.cell 5 rfl
        have v6 := V3.out.cell 6 rfl
        have v7 := V3.out.cell 7 rfl
        have v8 := V3.out.cell 8 rfl
        have v9 := V3.out.cell 9 rfl
        have WL : Hid (V.heap.size ≤ W3.heap.size ∧ V.heap.size ≤ wr.heap.size) := ⟨Nat.le_trans HB.out.2 E3.out.size, HB.out.2⟩
        go_wp2_with (
          at_builtin
          refine wp_hartsX _ rfl _ _ rfl V.heap.size (.slice va j vc) qs rfl ((row_keepX HM.out.row E3.out).alloc _) W3.heap.size (⟨.slice da d0 dk, .slice db d1 dl, .slice dc d2 dm, .slice dd d3 dn⟩ : V4) H rfl (range_new _ _ _) (by intro u hu; simp only [V4.l, List.mem_cons, List.not_mem_nil, or_false] at hu; rcases hu with rfl | rfl | rfl | rfl <;> rfl) (by have := HM.out.len; have := HLT.out; have := JL.out.1; have := HL.out; have := SMP.out.own; omega) (by have := WL.out.1; simp; omega) ?_
          intro v' w' hN' hG'
          obtain ⟨va', vc', hv'⟩ := row_shape hN'
          rw [List.length_append, HM.out.len] at hv'
          subst hv'
          have AL : Hid (Below W3.heap.size W3 (W3.alloc (.cells #[.slice da d0 dk, .int .i64 H.pc, .slice db d1 dl, .bool H.halted, .bool H.waiting, .bool H.rung, .int .i64 H.done, .slice dc d2 dm, .slice dd d3 dn] 61))) := al (Below.refl _ _) _
          have RK : Hid ((W3.alloc (.cells #[.slice da d0 dk, .int .i64 H.pc, .slice db d1 dl, .bool H.halted, .bool H.waiting, .bool H.rung, .int .i64 H.done, .slice dc d2 dm, .slice dd d3 dn] 61)).ownsRow V.heap.size 61 9 (.slice va j vc) qs.length (flat9 qs)) := row_keepX (row_keepX HM.out.row E3.out) AL.out
          have KY : Hid (Ky (some 61) (W3.alloc (.cells #[.slice da d0 dk, .int .i64 H.pc, .slice db d1 dl, .bool H.halted, .bool H.waiting, .bool H.rung, .int .i64 H.done, .slice dc d2 dm, .slice dd d3 dn] 61)) w') := ky_row RK.out hG'
          have MN : Hid (Mw w' V.heap.size (.slice va' (j + 1) vc') jss (j + 1) (qs ++ [((⟨.slice da d0 dk, .slice db d1 dl, .slice dc d2 dm, .slice dd d3 dn⟩ : V4), H)])) := HM.out.step (on E3.out AL.out) (HM3.out.1.keep AL.out) HM3.out.2 WL.out.2 HOK.out hN' hG'
          have B' : Hid (Below W2.heap.size W2 w') := (on (on HB.out.1 E3.out) AL.out).grown hG' (by have := WL.out.1; have := BV.out.size; simp; omega) (fun k e => by have := (HM.out.row.lt k e).1; have := BV.out.size; omega)
          have X' : Hid (Vb w' q #[.slice b0 m0 g0, .slice b1a m1 g1, .slice b2a m2 g2, .slice b3 m3 g3, .slice la ll lk, .slice va j vc, .int .i64 0, .int .i64 LV, .int .i64 0] 38) := KY.out.vb (X3.out.keep AL.out) (by decide)
          have Wq' : Hid (WqE w' W2.heap.size (.slice b0 m0 g0) (.slice b1a m1 g1) (.slice b2a m2 g2) (.slice b3 m3 g3) P) := ((HW.out.keep E3.out).keep AL.out).ky KY.out (by decide) (by decide) (by decide) (by decide) (by decide)
          have Z' : Hid (V.heap.size ≤ w'.heap.size) := by have := WL.out.1; have := AL.out.size; have := hG'.size; show _ ≤ _; omega
          have y5 := X'.out.cell 5 rfl
          have f5 := X'.out.free 5
          have lq := X'.out.lt
          have M9 : Hid (Mq (fun k => k = q) w' (w'.setCell ⟨q, 5, none⟩ (.slice va' (j + 1) vc'))) := (Mq.refl _ _).set _ _ rfl
          have X9 : Hid (Vb (w'.setCell ⟨q, 5, none⟩ (.slice va' (j + 1) vc')) q #[.slice b0 m0 g0, .slice b1a m1 g1, .slice b2a m2 g2, .slice b3 m3 g3, .slice la ll lk, .slice va' (j + 1) vc', .int .i64 0, .int .i64 LV, .int .i64 0] 38) := X'.out.set 5 _
          have K9 : Hid (Ky (some 38) w' (w'.setCell ⟨q, 5, none⟩ (.slice va' (j + 1) vc'))) := ky_set X'.out M9.out
          clear hN' hG' v0 v1 v2 v3 v4 v5 v6 v7 v8 v9 x5 KY RK AL)
        go_roundw
        case rel => exact ⟨j + 1, _, _, by have := HLT.out; omega, by go_num, X9.out, Wq'.out.ky K9.out (by decide) (by decide) (by decide) (by decide) (by decide), MN.out.ky K9.out (by decide) (by decide), ND.out, Mq.under B'.out M9.out (fun k e => by have := QB.out; omega), Nat.le_trans Z'.out M9.out.size⟩
        case measure => have := HLT.out; simp [intOf]; omega
      · have eBC : Hid (BC = CX ∧ BX = voidX) := by
          have hs := nh_stop jss j (by have := HLT.out; have := JL.out.1; omega) (by rw [HZS.out, HCH.out.1]; exact hc0)
          have e1 : BC = CX := by rw [← HBX.out.2.2, HD.out, hs, HZS.out, HCH.out.1]
          exact ⟨e1, by rw [← HBX.out.2.1]; exact bh_not _ _ _ (by rw [HBX.out.1, e1]; exact hc0)⟩
        have R3 : Hid (Vb W3 (s + 1) #[.int .i64 0, .slice none 0 0, .slice none 0 0, .slice none 0 0, .slice none 0 0, .slice none 0 0, .slice none 0 0, .int .i64 0, .int .i64 0, .int .i64 0] 40) := (R2.out.keep HB.out.1).keep E3.out
        have B3 : Hid (Below w.heap.size w W3) := on (on B2.out HB.out.1) E3.out
        have p0 := R3.out.cell 0 rfl
        have f0 := R3.out.free 0
        have p1 := R3.out.cell 1 rfl
        have f1 := R3.out.free 1
        have p2 := R3.out.cell 2 rfl
        have f2 := R3.out.free 2
        have p3 := R3.out.cell 3 rfl
        have f3 := R3.out.free 3
        have p4 := R3.out.cell 4 rfl
        have f4 := R3.out.free 4
        have p5 := R3.out.cell 5 rfl
        have f5 := R3.out.free 5
        have p6 := R3.out.cell 6 rfl
        have f6 := R3.out.free 6
        have p7 := R3.out.cell 7 rfl
        have f7 := R3.out.free 7
        have p8 := R3.out.cell 8 rfl
        have f8 := R3.out.free 8
        have p9 := R3.out.cell 9 rfl
        have f9 := R3.out.free 9
        have lt := R3.out.lt
        go_wp2_with fail
        clear lt p0 f0 p1 f1 p2 f2 p3 f3 p4 f4 p5 f5 p6 f6 p7 f7 p8 f8 p9 f9
        have NN : Hid (_ ∧ _) := ten R3.out (.int .i64 CX) (.slice none 0 0) (.slice none 0 0) (.slice none 0 0) (.slice none 0 0) (.slice none 0 0) (.slice none 0 0) (.int .i64 0) (.int .i64 0) (.int .i64 0)
        generalize ((((((((((W3.setCell ⟨s + 1, 0, none⟩ (.int .i64 CX)).setCell ⟨s + 1, 1, none⟩ (.slice none 0 0)).setCell ⟨s + 1, 2, none⟩ (.slice none 0 0)).setCell ⟨s + 1, 3, none⟩ (.slice none 0 0)).setCell ⟨s + 1, 4, none⟩ (.slice none 0 0)).setCell ⟨s + 1, 5, none⟩ (.slice none 0 0)).setCell ⟨s + 1, 6, none⟩ (.slice none 0 0)).setCell ⟨s + 1, 7, none⟩ (.int .i64 0)).setCell ⟨s + 1, 8, none⟩ (.int .i64 0)).setCell ⟨s + 1, 9, none⟩ (.int .i64 0)) = W9 at *
        have x0 := NN.out.1.cell 0 rfl
        have x1 := NN.out.1.cell 1 rfl
        have x2 := NN.out.1.cell 2 rfl
        have x3 := NN.out.1.cell 3 rfl
        have x4 := NN.out.1.cell 4 rfl
        have x5 := NN.out.1.cell 5 rfl
        have x6 := NN.out.1.cell 6 rfl
        have x7 := NN.out.1.cell 7 rfl
        have x8 := NN.out.1.cell 8 rfl
        have x9 := NN.out.1.cell 9 rfl
        exact bodyPost_ret (v := .agg #[.int .i64 CX, .slice none 0 0, .slice none 0 0, .slice none 0 0, .slice none 0 0, .slice none 0 0, .slice none 0 0, .int .i64 0, .int .i64 0, .int .i64 0]) (by simp [results, Tryz.results6, go_sem, x0, x1, x2, x3, x4, x5, x6, x7, x8, x9]) rfl ⟨_, _, _, _, _, _, by rw [eBC.out.1, eBC.out.2]; rfl, by rw [eBC.out.2]; exact (ow_void _ _).hq, Mq.under B3.out NN.out.2 fun k e => by have := HSs.out; omega⟩
    · have hJ : ¬ (j : Int) < (jl : Int) := by omega
      have JN : Hid (j = jl) := by show _ = _; omega
      clear hlt hB hj
      have NZ : Hid (BC = 0 ∧ BX = ⟨P, loadZ P iss, jss.map newV, 0, LV, 0⟩) := by
        have e0 : nhC jss = 0 := by rw [HD.out, JN.out, ← JL.out.1, List.drop_length]; rfl
        have e1 : BC = 0 := by rw [← HBX.out.2.2, e0]
        exact ⟨e1, by rw [← HBX.out.2.1, ← HLV.out]; exact bh_yes _ _ _ (by rw [HBX.out.1, e1])⟩
      have R3 : Hid (Vb wr (s + 1) #[.int .i64 0, .slice none 0 0, .slice none 0 0, .slice none 0 0, .slice none 0 0, .slice none 0 0, .slice none 0 0, .int .i64 0, .int .i64 0, .int .i64 0] 40) := R2.out.keep HB.out.1
      have y0 := HX.out.cell 0 rfl
      have y1 := HX.out.cell 1 rfl
      have y2 := HX.out.cell 2 rfl
      have y3 := HX.out.cell 3 rfl
      have y4 := HX.out.cell 4 rfl
      have y5 := HX.out.cell 5 rfl
      have y6 := HX.out.cell 6 rfl
      have y7 := HX.out.cell 7 rfl
      have y8 := HX.out.cell 8 rfl
      have p0 := R3.out.cell 0 rfl
      have f0 := R3.out.free 0
      have p1 := R3.out.cell 1 rfl
      have f1 := R3.out.free 1
      have p2 := R3.out.cell 2 rfl
      have f2 := R3.out.free 2
      have p3 := R3.out.cell 3 rfl
      have f3 := R3.out.free 3
      have p4 := R3.out.cell 4 rfl
      have f4 := R3.out.free 4
      have p5 := R3.out.cell 5 rfl
      have f5 := R3.out.free 5
      have p6 := R3.out.cell 6 rfl
      have f6 := R3.out.free 6
      have p7 := R3.out.cell 7 rfl
      have f7 := R3.out.free 7
      have p8 := R3.out.cell 8 rfl
      have f8 := R3.out.free 8
      have p9 := R3.out.cell 9 rfl
      have f9 := R3.out.free 9
      have lt := R3.out.lt
      go_wp2_with fail
      clear lt y0 y1 y2 y3 y4 y5 y6 y7 y8 p0 f0 p1 f1 p2 f2 p3 f3 p4 f4 p5 f5 p6 f6 p7 f7 p8 f8 p9 f9
      have NN : Hid (_ ∧ _) := ten R3.out (.int .i64 0) (.slice b0 m0 g0) (.slice b1a m1 g1) (.slice b2a m2 g2) (.slice b3 m3 g3) (.slice la ll lk) (.slice va j vc) (.int .i64 0) (.int .i64 LV) (.int .i64 0)
      have O9 : Hid (Ho (s + 2) wr ((((((((((wr.setCell ⟨s + 1, 0, none⟩ (.int .i64 0)).setCell ⟨s + 1, 1, none⟩ (.slice b0 m0 g0)).setCell ⟨s + 1, 2, none⟩ (.slice b1a m1 g1)).setCell ⟨s + 1, 3, none⟩ (.slice b2a m2 g2)).setCell ⟨s + 1, 4, none⟩ (.slice b3 m3 g3)).setCell ⟨s + 1, 5, none⟩ (.slice la ll lk)).setCell ⟨s + 1, 6, none⟩ (.slice va j vc)).setCell ⟨s + 1, 7, none⟩ (.int .i64 0)).setCell ⟨s + 1, 8, none⟩ (.int .i64 LV)).setCell ⟨s + 1, 9, none⟩ (.int .i64 0))) := NN.out.2.ho fun k e => by omega
      generalize ((((((((((wr.setCell ⟨s + 1, 0, none⟩ (.int .i64 0)).setCell ⟨s + 1, 1, none⟩ (.slice b0 m0 g0)).setCell ⟨s + 1, 2, none⟩ (.slice b1a m1 g1)).setCell ⟨s + 1, 3, none⟩ (.slice b2a m2 g2)).setCell ⟨s + 1, 4, none⟩ (.slice b3 m3 g3)).setCell ⟨s + 1, 5, none⟩ (.slice la ll lk)).setCell ⟨s + 1, 6, none⟩ (.slice va j vc)).setCell ⟨s + 1, 7, none⟩ (.int .i64 0)).setCell ⟨s + 1, 8, none⟩ (.int .i64 LV)).setCell ⟨s + 1, 9, none⟩ (.int .i64 0)) = W9 at *
      have x0 := NN.out.1.cell 0 rfl
      have x1 := NN.out.1.cell 1 rfl
      have x2 := NN.out.1.cell 2 rfl
      have x3 := NN.out.1.cell 3 rfl
      have x4 := NN.out.1.cell 4 rfl
      have x5 := NN.out.1.cell 5 rfl
      have x6 := NN.out.1.cell 6 rfl
      have x7 := NN.out.1.cell 7 rfl
      have x8 := NN.out.1.cell 8 rfl
      have x9 := NN.out.1.cell 9 rfl
      have z2 := ZW.out
      have z3 := LTs.out
      have z4 := BV.out.size
      have z5 := HSs.out
      have F : Hid (Hq W9 w.heap.size (.slice b0 m0 g0) (.slice b1a m1 g1) (.slice b2a m2 g2) (.slice b3 m3 g3) (.slice la ll lk) (.slice va j vc) ⟨P, loadZ P iss, jss.map newV, 0, LV, 0⟩) := by
        have hs2 : s + 2 ≤ W2.heap.size := by omega
        obtain ⟨xs, k1, k2, k3⟩ := HW.out.own
        have own9 : SvO W9 (s + 2) (.slice b0 m0 g0) P.own := ⟨xs, k1, row_hoX (row_monoX k2 hs2) O9.out, fun i x e => ((k3 i x e).mono hs2).ho O9.out⟩
        have mem9 : Nums W9 (s + 2) (.slice la ll lk) (loadZ P iss) := (((NM.out.keep HB.out.1).mono (by omega)).ho O9.out)
        have mw9 : Mw W9 V.heap.size (.slice va j vc) jss j qs := HM.out.hoX (ho_lessX O9.out (by omega))
        refine ⟨own9.sv, row_monoX (row_hoX (row_monoX HW.out.lanes hs2) O9.out) (by omega), row_monoX (row_hoX (row_monoX HW.out.bells hs2) O9.out) (by omega), row_monoX (row_hoX (row_monoX HW.out.plan hs2) O9.out) (by omega), mem9.rv, ?_⟩
        refine row_hv mw9.row ?_ fun q hq => ?_
        · apply List.ext_getElem (by rw [List.length_map, mw9.len, JN.out, List.length_map]; exact JL.out.1.symm)
          intro i h1 h2
          rw [List.length_map] at h1
          have e := (mw9.one i qs[i] (List.getElem?_eq_getElem h1)).1
          rw [List.getElem_map, List.getElem_map, e, List.getD, List.getElem?_eq_getElem (by rw [List.length_map] at h2; exact h2)]
          rfl
        · obtain ⟨i, hi, e⟩ := List.mem_iff_getElem.1 hq
          exact (mw9.one i q (by rw [List.getElem?_eq_getElem hi, e])).2
      exact bodyPost_ret (v := .agg #[.int .i64 0, .slice b0 m0 g0, .slice b1a m1 g1, .slice b2a m2 g2, .slice b3 m3 g3, .slice la ll lk, .slice va j vc, .int .i64 0, .int .i64 LV, .int .i64 0]) (by simp [results, Tryz.results6, go_sem, x0, x1, x2, x3, x4, x5, x6, x7, x8, x9]) rfl ⟨_, _, _, _, _, _, by rw [NZ.out.1, NZ.out.2], by rw [NZ.out.2]; exact F.out, Mq.under (on B2.out HB.out.1) NN.out.2 fun k e => by have := HSs.out; omega⟩
theorem s_bootHost (a0 a1 a2 a3 : Option Addr) (n0 c0 n1 c1 n2 c2 n3 c3 : Nat) (P : Plc) (ia : Option Addr) (il ic : Nat) (iss : List (List Int)) (ja : Option Addr) (jl jc : Nat) (jss : List (List Int)) (b : Nat) (w : World) (h : Pl w a0 n0 c0 a1 n1 c1 a2 n2 c2 a3 n3 c3 P) (sm : Small n0 n1 n2 n3 P) (hi : IsS2 w ia il ic iss) (hj : SwN w b ja jl jc jss) (h3 : 0 < n3 → ∃ g, a3 = some ⟨g, 0, none⟩) :
    Calls Tryz.prog 6 #[.agg #[.slice a0 n0 c0, .slice a1 n1 c1, .slice a2 n2 c2, .slice a3 n3 c3], .slice ia il ic, .slice ja jl jc] w fun e w' => ∃ v0 v1 v2 v3 v4 v5, e = .returned (.agg #[.int .i64 (bhC P iss jss), v0, v1, v2, v3, v4, v5, .int .i64 (bhX P iss jss).slot, .int .i64 (bhX P iss jss).left, .int .i64 (bhX P iss jss).clock]) ∧ Hq w' w.heap.size v0 v1 v2 v3 v4 v5 (bhX P iss jss) ∧ Below w.heap.size w w' := by
  by_cases hv : loadC P iss = 0
  · by_cases hl : jss.length = P.own.length
    · exact sbh_run _ _ _ _ _ _ _ _ _ _ _ _ P _ _ _ iss _ _ _ jss b w h sm hi hj h3 hv hl
    · exact sbh_many _ _ _ _ _ _ _ _ _ _ _ _ P _ _ _ iss _ _ _ jss b w h sm hi hj hv hl
  · exact sbh_load _ _ _ _ _ _ _ _ _ _ _ _ P _ _ _ iss _ _ _ jss b w h sm hi hj hv
end Go.Proofs.YtbjbpkfbmgebjaaGreatDoor
