/- Texts of this seat, joined. -/
import Derived.Deep.RegionWith
import Derived.Deep.RegionHeld3
import Derived.Deep.Cut
import Derived.Deep.CutRange
import Derived.Test.YtmgninipaigjfaaGreatDoorQ38
import Derived.Test.YtmgninipaigjfaaGreatDoorQ47
import Derived.Test.YtmgninipaigjfaaGreatDoorQ48
namespace Go.Proofs.YtmgninipaigjfaaGreatDoor
open Go.RowKit
set_option linter.unusedVariables false

theorem nineX {v : World} {q : Nat} {t : TypeId} {z0 z1 z2 z3 z4 z5 z6 z7 z8 : Value} (h : Vb v q #[z0, z1, z2, z3, z4, z5, z6, z7, z8] t) (u0 u1 u2 u3 u4 u5 u6 u7 u8 : Value) :
    Vb (v.setCells q 0 #[u0, u1, u2, u3, u4, u5, u6, u7, u8].toList) q #[u0, u1, u2, u3, u4, u5, u6, u7, u8] t ∧ Mq (fun k => k = q) v (v.setCells q 0 #[u0, u1, u2, u3, u4, u5, u6, u7, u8].toList) := by
  have h0 : Vb (v.setCell ⟨q, 0, none⟩ u0) q #[u0, z1, z2, z3, z4, z5, z6, z7, z8] t := h.set 0 u0
  have h1 : Vb ((v.setCell ⟨q, 0, none⟩ u0).setCell ⟨q, 1, none⟩ u1) q #[u0, u1, z2, z3, z4, z5, z6, z7, z8] t := h0.set 1 u1
  have h2 : Vb (((v.setCell ⟨q, 0, none⟩ u0).setCell ⟨q, 1, none⟩ u1).setCell ⟨q, 2, none⟩ u2) q #[u0, u1, u2, z3, z4, z5, z6, z7, z8] t := h1.set 2 u2
  have h3 : Vb ((((v.setCell ⟨q, 0, none⟩ u0).setCell ⟨q, 1, none⟩ u1).setCell ⟨q, 2, none⟩ u2).setCell ⟨q, 3, none⟩ u3) q #[u0, u1, u2, u3, z4, z5, z6, z7, z8] t := h2.set 3 u3
  have h4 : Vb (((((v.setCell ⟨q, 0, none⟩ u0).setCell ⟨q, 1, none⟩ u1).setCell ⟨q, 2, none⟩ u2).setCell ⟨q, 3, none⟩ u3).setCell ⟨q, 4, none⟩ u4) q #[u0, u1, u2, u3, u4, z5, z6, z7, z8] t := h3.set 4 u4
  have h5 : Vb ((((((v.setCell ⟨q, 0, none⟩ u0).setCell ⟨q, 1, none⟩ u1).setCell ⟨q, 2, none⟩ u2).setCell ⟨q, 3, none⟩ u3).setCell ⟨q, 4, none⟩ u4).setCell ⟨q, 5, none⟩ u5) q #[u0, u1, u2, u3, u4, u5, z6, z7, z8] t := h4.set 5 u5
  have h6 : Vb (((((((v.setCell ⟨q, 0, none⟩ u0).setCell ⟨q, 1, none⟩ u1).setCell ⟨q, 2, none⟩ u2).setCell ⟨q, 3, none⟩ u3).setCell ⟨q, 4, none⟩ u4).setCell ⟨q, 5, none⟩ u5).setCell ⟨q, 6, none⟩ u6) q #[u0, u1, u2, u3, u4, u5, u6, z7, z8] t := h5.set 6 u6
  have h7 : Vb ((((((((v.setCell ⟨q, 0, none⟩ u0).setCell ⟨q, 1, none⟩ u1).setCell ⟨q, 2, none⟩ u2).setCell ⟨q, 3, none⟩ u3).setCell ⟨q, 4, none⟩ u4).setCell ⟨q, 5, none⟩ u5).setCell ⟨q, 6, none⟩ u6).setCell ⟨q, 7, none⟩ u7) q #[u0, u1, u2, u3, u4, u5, u6, u7, z8] t := h6.set 7 u7
  have h8 : Vb (((((((((v.setCell ⟨q, 0, none⟩ u0).setCell ⟨q, 1, none⟩ u1).setCell ⟨q, 2, none⟩ u2).setCell ⟨q, 3, none⟩ u3).setCell ⟨q, 4, none⟩ u4).setCell ⟨q, 5, none⟩ u5).setCell ⟨q, 6, none⟩ u6).setCell ⟨q, 7, none⟩ u7).setCell ⟨q, 8, none⟩ u8) q #[u0, u1, u2, u3, u4, u5, u6, u7, u8] t := h7.set 8 u8
  exact ⟨h8, mq_cells q _ v 0⟩
/-- A host of the call's own whose lists may be shared. -/
structure Oq (w : World) (base : Nat) (v0 v1 v2 v3 v4 v5 : Value) (X : Hst) : Prop where
  own : SvO w base v0 X.pol.own
  lanes : Ls 86 w base v1 X.pol.lanes
  bells : Prs 90 w base v2 X.pol.bells
  plan : Prs 79 w base v3 X.pol.plan
  mem : Nums w base v4 X.mem
  harts : ∃ qs : List (V4 × Ht), w.ownsRow base 81 9 v5 qs.length (flat9 qs) ∧ qs.map Prod.snd = X.harts ∧ ∀ q ∈ qs, Hm w base q.1.r q.1.c q.1.i q.1.o q.2
theorem Oq.hq {w : World} {base : Nat} {v0 v1 v2 v3 v4 v5 : Value} {X : Hst} (h : Oq w base v0 v1 v2 v3 v4 v5 X) : Hq w base v0 v1 v2 v3 v4 v5 X := by
  obtain ⟨qs, h1, h2, h3⟩ := h.harts
  exact ⟨h.own.sv, h.lanes, h.bells, h.plan, h.mem.rv, row_hv h1 h2 h3⟩
theorem Oq.keep {w w' : World} {base : Nat} {v0 v1 v2 v3 v4 v5 : Value} {X : Hst} (h : Oq w base v0 v1 v2 v3 v4 v5 X) (b : Below w.heap.size w w') : Oq w' base v0 v1 v2 v3 v4 v5 X := by
  obtain ⟨qs, h1, h2, h3⟩ := h.harts
  exact ⟨h.own.keep b, h.lanes.keep b, h.bells.keep b, h.plan.keep b, h.mem.keep b, qs, row_keepX h1 b, h2, fun q hq => (h3 q hq).keep b⟩
theorem Oq.ho {w w' : World} {base : Nat} {v0 v1 v2 v3 v4 v5 : Value} {X : Hst} (h : Oq w base v0 v1 v2 v3 v4 v5 X) (k : Ho base w w') : Oq w' base v0 v1 v2 v3 v4 v5 X := by
  obtain ⟨qs, h1, h2, h3⟩ := h.harts
  obtain ⟨xs, k1, k2, k3⟩ := h.own
  exact ⟨⟨xs, k1, row_hoX k2 k, fun i x e => (k3 i x e).ho k⟩, row_hoX h.lanes k, row_hoX h.bells k, row_hoX h.plan k, h.mem.ho k, qs, row_hoX h1 k, h2, fun q hq => (h3 q hq).ho k⟩
theorem Oq.mono {w : World} {base base' : Nat} {v0 v1 v2 v3 v4 v5 : Value} {X : Hst} (h : Oq w base v0 v1 v2 v3 v4 v5 X) (hb : base' ≤ base) : Oq w base' v0 v1 v2 v3 v4 v5 X := by
  obtain ⟨qs, h1, h2, h3⟩ := h.harts
  exact ⟨h.own.mono hb, row_monoX h.lanes hb, row_monoX h.bells hb, row_monoX h.plan hb, h.mem.mono hb, qs, row_monoX h1 hb, h2, fun q hq => (h3 q hq).mono hb⟩
theorem Ow.oq {w : World} {base : Nat} {v0 v1 v2 v3 v4 v5 : Value} {X : Hst} {xs : List Value} {qs : List (V4 × Ht)} (h : Ow w base v0 v1 v2 v3 v4 v5 X xs qs) : Oq w base v0 v1 v2 v3 v4 v5 X :=
  ⟨⟨xs, h.xl, h.own, h.rows⟩, h.lanes, h.bells, h.plan, h.mem, qs, h.harts, h.qh, h.lists⟩
theorem oq_shapes {w : World} {base : Nat} {v0 v1 v2 v3 v4 v5 : Value} {X : Hst} (h : Oq w base v0 v1 v2 v3 v4 v5 X) : ∃ a0 a1 a2 a3 a4 a5 c0 c1 c2 c3 c4 c5 n0 n1 n2 n3 n4 n5, v0 = .slice a0 n0 c0 ∧ v1 = .slice a1 n1 c1 ∧ v2 = .slice a2 n2 c2 ∧ v3 = .slice a3 n3 c3 ∧ v4 = .slice a4 n4 c4 ∧ v5 = .slice a5 n5 c5 := by
  obtain ⟨qs, h1, _, _⟩ := h.harts
  obtain ⟨xs, _, k2, _⟩ := h.own
  obtain ⟨a0, c0, e0⟩ := row_shape k2
  obtain ⟨a1, c1, e1⟩ := row_shape h.lanes
  obtain ⟨a2, c2, e2⟩ := row_shape h.bells
  obtain ⟨a3, c3, e3⟩ := row_shape h.plan
  obtain ⟨a4, c4, e4, _⟩ := h.mem.shape
  obtain ⟨a5, c5, e5⟩ := row_shape h1
  exact ⟨a0, a1, a2, a3, a4, a5, c0, c1, c2, c3, c4, c5, _, _, _, _, _, _, e0, e1, e2, e3, e4, e5⟩
theorem ho_lessX {b b' : Nat} {w w' : World} (h : Ho b w w') (hb : b ≤ b') : Ho b' w w' := ⟨h.size, fun k hk => h.block k (by omega)⟩
theorem Mw.ky {E : TypeId} {w w' : World} {base j : Nat} {v : Value} {jss : List (List Int)} {qs : List (V4 × Ht)} (h : Mw w base v jss j qs) (k : Ky (some E) w w') (h1 : E ≠ 81) (h2 : E ≠ 2) : Mw w' base v jss j qs :=
  ⟨h.len, k.row h.row (fun e => h1 (by injection e with e; exact e.symm)), fun i q e => ⟨(h.one i q e).1, have m := (h.one i q e).2; have ne : some 2 ≠ some E := fun e => h2 (by injection e with e; exact e.symm); ⟨k.row m.r ne, k.row m.c ne, k.row m.i ne, k.row m.o ne⟩⟩, h.apart⟩
theorem Mw.hoX {w w' : World} {base j : Nat} {v : Value} {jss : List (List Int)} {qs : List (V4 × Ht)} (h : Mw w base v jss j qs) (k : Ho base w w') : Mw w' base v jss j qs :=
  ⟨h.len, row_hoX h.row k, fun i q e => ⟨(h.one i q e).1, (h.one i q e).2.ho k⟩, h.apart⟩
set_option maxRecDepth 20000 in
set_option maxHeartbeats 8000000 in
theorem sbh_load (a0 a1 a2 a3 : Option Addr) (n0 c0 n1 c1 n2 c2 n3 c3 : Nat) (P : Plc) (ia : Option Addr) (il ic : Nat) (iss : List (List Int)) (ja : Option Addr) (jl jc : Nat) (jss : List (List Int)) (b : Nat) (w : World) (h : Pl w a0 n0 c0 a1 n1 c1 a2 n2 c2 a3 n3 c3 P) (sm : Small n0 n1 n2 n3 P) (hi : IsS2 w ia il ic iss) (hj : SwN w b ja jl jc jss) (hv : loadC P iss ≠ 0) :
    Calls Tryz.prog 25 #[.agg #[.slice a0 n0 c0, .slice a1 n1 c1, .slice a2 n2 c2, .slice a3 n3 c3], .slice ia il ic, .slice ja jl jc] w fun e w' => ∃ v0 v1 v2 v3 v4 v5, e = .returned (.agg #[.int .i64 (bhC P iss jss), v0, v1, v2, v3, v4, v5, .int .i64 (bhX P iss jss).slot, .int .i64 (bhX P iss jss).left, .int .i64 (bhX P iss jss).clock]) ∧ Oq w' w.heap.size v0 v1 v2 v3 v4 v5 (bhX P iss jss) ∧ Below w.heap.size w w' := by
  have hx : bhC P iss jss = loadC P iss := by rw [bhC, if_neg hv]
  rw [bh_not P iss jss (by rw [hx]; exact hv), hx]
  obtain ⟨LC, hLC⟩ : ∃ c, loadC P iss = c := ⟨_, rfl⟩
  rw [hLC] at hv ⊢
  have HLC : Hid (loadC P iss = LC) := hLC
  clear hx hLC
  generalize hW : (w.alloc (.cells #[.slice a0 n0 c0, .slice a1 n1 c1, .slice a2 n2 c2, .slice a3 n3 c3] 35)).alloc (.cells #[.int .i64 0, .slice none 0 0, .slice none 0 0, .slice none 0 0, .slice none 0 0, .slice none 0 0, .slice none 0 0, .int .i64 0, .int .i64 0, .int .i64 0] 40) = W
  have B0 : Hid (Below w.heap.size w W) := by show Below _ _ _; rw [← hW]; exact al (al (Below.refl _ _) _) _
  obtain ⟨s, hS⟩ : ∃ s, w.heap.size = s := ⟨_, rfl⟩
  have HSs : Hid (w.heap.size = s) := hS
  have z1 : s + 1 = (w.alloc (.cells #[.slice a0 n0 c0, .slice a1 n1 c1, .slice a2 n2 c2, .slice a3 n3 c3] 35)).heap.size := by rw [← hS]; simp
  have Q : Hid (Vb W s #[.slice a0 n0 c0, .slice a1 n1 c1, .slice a2 n2 c2, .slice a3 n3 c3] 35) := by show Vb _ _ _ _; rw [← hW, ← hS]; exact (Vb.new _ _ _).push _
  have R : Hid (Vb W (s + 1) #[.int .i64 0, .slice none 0 0, .slice none 0 0, .slice none 0 0, .slice none 0 0, .slice none 0 0, .slice none 0 0, .int .i64 0, .int .i64 0, .int .i64 0] 40) := by show Vb _ _ _ _; rw [← hW, z1]; exact Vb.new _ _ _
  have ZW : Hid (s + 2 = W.heap.size) := by show _ = _; rw [← hW, ← hS]; simp
  clear z1
  have D : Hid (Pl W a0 n0 c0 a1 n1 c1 a2 n2 c2 a3 n3 c3 P) := h.stay B0.out
  have SMP : Hid (Small n0 n1 n2 n3 P) := sm
  have N0 : Hid (n0 = P.own.length) := h.own.len
  have NI : Hid (IsS2 W ia il ic iss ∧ SwN W b ja jl jc jss) := ⟨hi.stay B0.out, hj.keep B0.out⟩
  have JL : Hid (jss.length = jl ∧ jl ≤ jc ∧ jc ≤ maxLen) := hj.len
  clear h hi hj sm
  have q0 := Q.out.cell 0 rfl
  have q1 := Q.out.cell 1 rfl
  have q2 := Q.out.cell 2 rfl
  have q3 := Q.out.cell 3 rfl
  go_enter Tryz.func25, Tryz.ntmps25
  go_wp2_with fail
  clear hW hS q0 q1 q2 q3
  refine (s_load _ _ _ _ _ _ _ _ _ _ _ _ P _ _ _ iss _ D.out NI.out.1).mono ?_
  rw [HLC.out]
  rintro e w1 ⟨mv, rfl, nm, b1⟩
  obtain ⟨la, lk, e0, _⟩ := nm.shape
  subst e0
  obtain ⟨ll, hll⟩ : ∃ n, (loadZ P iss).length = n := ⟨_, rfl⟩
  rw [hll] at nm ⊢
  clear hll
  have AL : Hid (Below w1.heap.size w1 (w1.alloc (.cells #[.int .i64 LC, .slice la ll lk] 75))) := al (Below.refl _ _) _
  have E2 : Hid (Below W.heap.size W (w1.alloc (.cells #[.int .i64 LC, .slice la ll lk] 75))) := al b1 _
  have B2 : Hid (Below w.heap.size w (w1.alloc (.cells #[.int .i64 LC, .slice la ll lk] 75))) := on B0.out E2.out
  have R2 : Hid (Vb (w1.alloc (.cells #[.int .i64 LC, .slice la ll lk] 75)) (s + 1) #[.int .i64 0, .slice none 0 0, .slice none 0 0, .slice none 0 0, .slice none 0 0, .slice none 0 0, .slice none 0 0, .int .i64 0, .int .i64 0, .int .i64 0] 40) := R.out.keep E2.out
  have Q2 : Hid (Vb (w1.alloc (.cells #[.int .i64 LC, .slice la ll lk] 75)) s #[.slice a0 n0 c0, .slice a1 n1 c1, .slice a2 n2 c2, .slice a3 n3 c3] 35) := Q.out.keep E2.out
  have V2 : Hid (Vb (w1.alloc (.cells #[.int .i64 LC, .slice la ll lk] 75)) w1.heap.size #[.int .i64 LC, .slice la ll lk] 75) := Vb.new _ _ _
  have NM : Hid (Nums (w1.alloc (.cells #[.int .i64 LC, .slice la ll lk] 75)) W.heap.size (.slice la ll lk) (loadZ P iss)) := nm.keep AL.out
  have LTs : Hid (s + 2 ≤ w1.heap.size ∧ w1.heap.size + 1 = (w1.alloc (.cells #[.int .i64 LC, .slice la ll lk] 75)).heap.size) := ⟨by have := ZW.out; have := b1.size; omega, by simp⟩
  clear nm b1 AL
  go_upto_region 2 with fail
  generalize (w1.alloc (.cells #[.int .i64 LC, .slice la ll lk] 75)) = W2 at *
  obtain ⟨t2, ht2⟩ : ∃ t, w1.heap.size = t := ⟨_, rfl⟩
  rw [ht2] at V2 LTs ⊢
  clear ht2
  have v0 := V2.out.cell 0 rfl
  have p0 := R2.out.cell 0 rfl
  have f0 := R2.out.free 0
  have p1 := R2.out.cell 1 rfl
  have f1 := R2.out.free 1
  have p2 := R2.out.cell 2 rfl
  have f2 := R2.out.free 2
  have p3 := R2.out.cell 3 rfl
  have f3 := R2.out.free 3
  have p4 := R2.out.cell 4 rfl
  have f4 := R2.out.free 4
  have p5 := R2.out.cell 5 rfl
  have f5 := R2.out.free 5
  have p6 := R2.out.cell 6 rfl
  have f6 := R2.out.free 6
  have p7 := R2.out.cell 7 rfl
  have f7 := R2.out.free 7
  have p8 := R2.out.cell 8 rfl
  have f8 := R2.out.free 8
  have p9 := R2.out.cell 9 rfl
  have f9 := R2.out.free 9
  have lt := R2.out.lt
  go_wp2_with fail
  clear lt p0 f0 p1 f1 p2 f2 p3 f3 p4 f4 p5 f5 p6 f6 p7 f7 p8 f8 p9 f9
  have NN : Hid (_ ∧ _) := ten R2.out (.int .i64 LC) (.slice none 0 0) (.slice none 0 0) (.slice none 0 0) (.slice none 0 0) (.slice none 0 0) (.slice none 0 0) (.int .i64 0) (.int .i64 0) (.int .i64 0)
  generalize ((((((((((W2.setCell ⟨s + 1, 0, none⟩ (.int .i64 LC)).setCell ⟨s + 1, 1, none⟩ (.slice none 0 0)).setCell ⟨s + 1, 2, none⟩ (.slice none 0 0)).setCell ⟨s + 1, 3, none⟩ (.slice none 0 0)).setCell ⟨s + 1, 4, none⟩ (.slice none 0 0)).setCell ⟨s + 1, 5, none⟩ (.slice none 0 0)).setCell ⟨s + 1, 6, none⟩ (.slice none 0 0)).setCell ⟨s + 1, 7, none⟩ (.int .i64 0)).setCell ⟨s + 1, 8, none⟩ (.int .i64 0)).setCell ⟨s + 1, 9, none⟩ (.int .i64 0)) = W9 at *
  have x0 := NN.out.1.cell 0 rfl
  have x1 := NN.out.1.cell 1 rfl
  have x2 := NN.out.1.cell 2 rfl
  have x3 := NN.out.1.cell 3 rfl
  have x4 := NN.out.1.cell 4 rfl
  have x5 := NN.out.1.cell 5 rfl
  have x6 := NN.out.1.cell 6 rfl
  have x7 := NN.out.1.cell 7 rfl
  have x8 := NN.out.1.cell 8 rfl
  have x9 := NN.out.1.cell 9 rfl
  exact bodyPost_ret (v := .agg #[.int .i64 LC, .slice none 0 0, .slice none 0 0, .slice none 0 0, .slice none 0 0, .slice none 0 0, .slice none 0 0, .int .i64 0, .int .i64 0, .int .i64 0]) (by simp [results, Tryz.results25, go_sem, x0, x1, x2, x3, x4, x5, x6, x7, x8, x9]) rfl ⟨_, _, _, _, _, _, rfl, (ow_void _ _).oq, Mq.under B2.out NN.out.2 fun k e => by have := HSs.out; omega⟩
set_option maxRecDepth 20000 in
set_option maxHeartbeats 8000000 in
theorem sbh_many (a0 a1 a2 a3 : Option Addr) (n0 c0 n1 c1 n2 c2 n3 c3 : Nat) (P : Plc) (ia : Option Addr) (il ic : Nat) (iss : List (List Int)) (ja : Option Addr) (jl jc : Nat) (jss : List (List Int)) (b : Nat) (w : World) (h : Pl w a0 n0 c0 a1 n1 c1 a2 n2 c2 a3 n3 c3 P) (sm : Small n0 n1 n2 n3 P) (hi : IsS2 w ia il ic iss) (hj : SwN w b ja jl jc jss) (hv : loadC P iss = 0) (hl : jss.length ≠ P.own.length) :
    Calls Tryz.prog 25 #[.agg #[.slice a0 n0 c0, .slice a1 n1 c1, .slice a2 n2 c2, .slice a3 n3 c3], .slice ia il ic, .slice ja jl jc] w fun e w' => ∃ v0 v1 v2 v3 v4 v5, e = .returned (.agg #[.int .i64 (bhC P iss jss), v0, v1, v2, v3, v4, v5, .int .i64 (bhX P iss jss).slot, .int .i64 (bhX P iss jss).left, .int .i64 (bhX P iss jss).clock]) ∧ Oq w' w.heap.size v0 v1 v2 v3 v4 v5 (bhX P iss jss) ∧ Below w.heap.size w w' := by
  have hx : bhC P iss jss = 2 := by rw [bhC, if_pos hv, if_neg hl]
  rw [bh_not P iss jss (by rw [hx]; decide), hx]
  have HLC : Hid (loadC P iss = 0) := hv
  have HL : Hid (jss.length ≠ P.own.length) := hl
  clear hx hv hl
  generalize hW : (w.alloc (.cells #[.slice a0 n0 c0, .slice a1 n1 c1, .slice a2 n2 c2, .slice a3 n3 c3] 35)).alloc (.cells #[.int .i64 0, .slice none 0 0, .slice none 0 0, .slice none 0 0, .slice none 0 0, .slice none 0 0, .slice none 0 0, .int .i64 0, .int .i64 0, .int .i64 0] 40) = W
  have B0 : Hid (Below w.heap.size w W) := by show Below _ _ _; rw [← hW]; exact al (al (Below.refl _ _) _) _
  obtain ⟨s, hS⟩ : ∃ s, w.heap.size = s := ⟨_, rfl⟩
  have HSs : Hid (w.heap.size = s) := hS
  have z1 : s + 1 = (w.alloc (.cells #[.slice a0 n0 c0, .slice a1 n1 c1, .slice a2 n2 c2, .slice a3 n3 c3] 35)).heap.size := by rw [← hS]; simp
  have Q : Hid (Vb W s #[.slice a0 n0 c0, .slice a1 n1 c1, .slice a2 n2 c2, .slice a3 n3 c3] 35) := by show Vb _ _ _ _; rw [← hW, ← hS]; exact (Vb.new _ _ _).push _
  have R : Hid (Vb W (s + 1) #[.int .i64 0, .slice none 0 0, .slice none 0 0, .slice none 0 0, .slice none 0 0, .slice none 0 0, .slice none 0 0, .int .i64 0, .int .i64 0, .int .i64 0] 40) := by show Vb _ _ _ _; rw [← hW, z1]; exact Vb.new _ _ _
  have ZW : Hid (s + 2 = W.heap.size) := by show _ = _; rw [← hW, ← hS]; simp
  clear z1
  have D : Hid (Pl W a0 n0 c0 a1 n1 c1 a2 n2 c2 a3 n3 c3 P) := h.stay B0.out
  have SMP : Hid (Small n0 n1 n2 n3 P) := sm
  have N0 : Hid (n0 = P.own.length) := h.own.len
  have NI : Hid (IsS2 W ia il ic iss ∧ SwN W b ja jl jc jss) := ⟨hi.stay B0.out, hj.keep B0.out⟩
  have JL : Hid (jss.length = jl ∧ jl ≤ jc ∧ jc ≤ maxLen) := hj.len
  clear h hi hj sm
  have q0 := Q.out.cell 0 rfl
  have q1 := Q.out.cell 1 rfl
  have q2 := Q.out.cell 2 rfl
  have q3 := Q.out.cell 3 rfl
  go_enter Tryz.func25, Tryz.ntmps25
  go_wp2_with fail
  clear hW hS q0 q1 q2 q3
  refine (s_load _ _ _ _ _ _ _ _ _ _ _ _ P _ _ _ iss _ D.out NI.out.1).mono ?_
  rw [HLC.out]
  rintro e w1 ⟨mv, rfl, nm, b1⟩
  obtain ⟨la, lk, e0, _⟩ := nm.shape
  subst e0
  obtain ⟨ll, hll⟩ : ∃ n, (loadZ P iss).length = n := ⟨_, rfl⟩
  rw [hll] at nm ⊢
  clear hll
  have AL : Hid (Below w1.heap.size w1 (w1.alloc (.cells #[.int .i64 0, .slice la ll lk] 75))) := al (Below.refl _ _) _
  have E2 : Hid (Below W.heap.size W (w1.alloc (.cells #[.int .i64 0, .slice la ll lk] 75))) := al b1 _
  have B2 : Hid (Below w.heap.size w (w1.alloc (.cells #[.int .i64 0, .slice la ll lk] 75))) := on B0.out E2.out
  have R2 : Hid (Vb (w1.alloc (.cells #[.int .i64 0, .slice la ll lk] 75)) (s + 1) #[.int .i64 0, .slice none 0 0, .slice none 0 0, .slice none 0 0, .slice none 0 0, .slice none 0 0, .slice none 0 0, .int .i64 0, .int .i64 0, .int .i64 0] 40) := R.out.keep E2.out
  have Q2 : Hid (Vb (w1.alloc (.cells #[.int .i64 0, .slice la ll lk] 75)) s #[.slice a0 n0 c0, .slice a1 n1 c1, .slice a2 n2 c2, .slice a3 n3 c3] 35) := Q.out.keep E2.out
  have V2 : Hid (Vb (w1.alloc (.cells #[.int .i64 0, .slice la ll lk] 75)) w1.heap.size #[.int .i64 0, .slice la ll lk] 75) := Vb.new _ _ _
  have NM : Hid (Nums (w1.alloc (.cells #[.int .i64 0, .slice la ll lk] 75)) W.heap.size (.slice la ll lk) (loadZ P iss)) := nm.keep AL.out
  have LTs : Hid (s + 2 ≤ w1.heap.size ∧ w1.heap.size + 1 = (w1.alloc (.cells #[.int .i64 0, .slice la ll lk] 75)).heap.size) := ⟨by have := ZW.out; have := b1.size; omega, by simp⟩
  clear nm b1 AL
  go_upto_region 2 with fail
  generalize (w1.alloc (.cells #[.int .i64 0, .slice la ll lk] 75)) = W2 at *
  obtain ⟨t2, ht2⟩ : ∃ t, w1.heap.size = t := ⟨_, rfl⟩
  rw [ht2] at V2 LTs ⊢
  clear ht2
  have v0 := V2.out.cell 0 rfl
  have q0 := Q2.out.cell 0 rfl
  have hne : ¬ (jl : Int) = (n0 : Int) := by have := HL.out; have := N0.out; have := JL.out.1; omega
  have hne2 : ¬ jl = n0 := by omega
  have hjm : (jl : Int) ≤ 9223372036854775807 := by have := JL.out.2; unfold maxLen at this; omega
  have p0 := R2.out.cell 0 rfl
  have f0 := R2.out.free 0
  have p1 := R2.out.cell 1 rfl
  have f1 := R2.out.free 1
  have p2 := R2.out.cell 2 rfl
  have f2 := R2.out.free 2
  have p3 := R2.out.cell 3 rfl
  have f3 := R2.out.free 3
  have p4 := R2.out.cell 4 rfl
  have f4 := R2.out.free 4
  have p5 := R2.out.cell 5 rfl
  have f5 := R2.out.free 5
  have p6 := R2.out.cell 6 rfl
  have f6 := R2.out.free 6
  have p7 := R2.out.cell 7 rfl
  have f7 := R2.out.free 7
  have p8 := R2.out.cell 8 rfl
  have f8 := R2.out.free 8
  have p9 := R2.out.cell 9 rfl
  have f9 := R2.out.free 9
  have lt := R2.out.lt
  go_wp2_with fail
  clear lt p0 f0 p1 f1 p2 f2 p3 f3 p4 f4 p5 f5 p6 f6 p7 f7 p8 f8 p9 f9
  have NN : Hid (_ ∧ _) := ten R2.out (.int .i64 2) (.slice none 0 0) (.slice none 0 0) (.slice none 0 0) (.slice none 0 0) (.slice none 0 0) (.slice none 0 0) (.int .i64 0) (.int .i64 0) (.int .i64 0)
  generalize ((((((((((W2.setCell ⟨s + 1, 0, none⟩ (.int .i64 2)).setCell ⟨s + 1, 1, none⟩ (.slice none 0 0)).setCell ⟨s + 1, 2, none⟩ (.slice none 0 0)).setCell ⟨s + 1, 3, none⟩ (.slice none 0 0)).setCell ⟨s + 1, 4, none⟩ (.slice none 0 0)).setCell ⟨s + 1, 5, none⟩ (.slice none 0 0)).setCell ⟨s + 1, 6, none⟩ (.slice none 0 0)).setCell ⟨s + 1, 7, none⟩ (.int .i64 0)).setCell ⟨s + 1, 8, none⟩ (.int .i64 0)).setCell ⟨s + 1, 9, none⟩ (.int .i64 0)) = W9 at *
  have x0 := NN.out.1.cell 0 rfl
  have x1 := NN.out.1.cell 1 rfl
  have x2 := NN.out.1.cell 2 rfl
  have x3 := NN.out.1.cell 3 rfl
  have x4 := NN.out.1.cell 4 rfl
  have x5 := NN.out.1.cell 5 rfl
  have x6 := NN.out.1.cell 6 rfl
  have x7 := NN.out.1.cell 7 rfl
  have x8 := NN.out.1.cell 8 rfl
  have x9 := NN.out.1.cell 9 rfl
  exact bodyPost_ret (v := .agg #[.int .i64 2, .slice none 0 0, .slice none 0 0, .slice none 0 0, .slice none 0 0, .slice none 0 0, .slice none 0 0, .int .i64 0, .int .i64 0, .int .i64 0]) (by simp [results, Tryz.results25, go_sem, x0, x1, x2, x3, x4, x5, x6, x7, x8, x9]) rfl ⟨_, _, _, _, _, _, rfl, (ow_void _ _).oq, Mq.under B2.out NN.out.2 fun k e => by have := HSs.out; omega⟩
set_option maxRecDepth 20000 in
set_option maxHeartbeats 8000000 in
theorem sbh_run (a0 a1 a2 a3 : Option Addr) (n0 c0 n1 c1 n2 c2 n3 c3 : Nat) (P : Plc) (ia : Option Addr) (il ic : Nat) (iss : List (List Int)) (ja : Option Addr) (jl jc : Nat) (jss : List (List Int)) (b : Nat) (w : World) (h : Pl w a0 n0 c0 a1 n1 c1 a2 n2 c2 a3 n3 c3 P) (sm : Small n0 n1 n2 n3 P) (hi : IsS2 w ia il ic iss) (hj : SwN w b ja jl jc jss) (h3 : 0 < n3 → ∃ g, a3 = some ⟨g, 0, none⟩) (hv : loadC P iss = 0) (hl : jss.length = P.own.length) :
    Calls Tryz.prog 25 #[.agg #[.slice a0 n0 c0, .slice a1 n1 c1, .slice a2 n2 c2, .slice a3 n3 c3], .slice ia il ic, .slice ja jl jc] w fun e w' => ∃ v0 v1 v2 v3 v4 v5, e = .returned (.agg #[.int .i64 (bhC P iss jss), v0, v1, v2, v3, v4, v5, .int .i64 (bhX P iss jss).slot, .int .i64 (bhX P iss jss).left, .int .i64 (bhX P iss jss).clock]) ∧ Oq w' w.heap.size v0 v1 v2 v3 v4 v5 (bhX P iss jss) ∧ Below w.heap.size w w' := by
  have hx : bhC P iss jss = nhC jss := by rw [bhC, if_pos hv, if_pos hl]
  obtain ⟨BC, hBC⟩ : ∃ c, bhC P iss jss = c := ⟨_, rfl⟩
  obtain ⟨BX, hBX⟩ : ∃ c, bhX P iss jss = c := ⟨_, rfl⟩
  have HBX : Hid (bhC P iss jss = BC ∧ bhX P iss jss = BX ∧ nhC jss = BC) := ⟨hBC, hBX, by rw [← hx]; exact hBC⟩
  rw [hBC, hBX]
  have HLC : Hid (loadC P iss = 0) := hv
  have HL : Hid (jss.length = P.own.length) := hl
  have PP : Hid (pfV P = 0) := load_pf hv
  obtain ⟨gp, hgp⟩ := h3 (by rw [h.plan.len]; exact plan_pos (load_pf hv))
  subst hgp
  obtain ⟨LV, hLV⟩ : ∃ z, (P.plan.getD 0 (0, 0)).2 = z := ⟨_, rfl⟩
  have HLV : Hid ((P.plan.getD 0 (0, 0)).2 = LV) := hLV
  clear hx hv hl hBC hBX h3 hLV
  generalize hW : (w.alloc (.cells #[.slice a0 n0 c0, .slice a1 n1 c1, .slice a2 n2 c2, .slice (some ⟨gp, 0, none⟩) n3 c3] 35)).alloc (.cells #[.int .i64 0, .slice none 0 0, .slice none 0 0, .slice none 0 0, .slice none 0 0, .slice none 0 0, .slice none 0 0, .int .i64 0, .int .i64 0, .int .i64 0] 40) = W
  have B0 : Hid (Below w.heap.size w W) := by show Below _ _ _; rw [← hW]; exact al (al (Below.refl _ _) _) _
  obtain ⟨s, hS⟩ : ∃ s, w.heap.size = s := ⟨_, rfl⟩
  have HSs : Hid (w.heap.size = s) := hS
  have z1 : s + 1 = (w.alloc (.cells #[.slice a0 n0 c0, .slice a1 n1 c1, .slice a2 n2 c2, .slice (some ⟨gp, 0, none⟩) n3 c3] 35)).heap.size := by rw [← hS]; simp
  have Q : Hid (Vb W s #[.slice a0 n0 c0, .slice a1 n1 c1, .slice a2 n2 c2, .slice (some ⟨gp, 0, none⟩) n3 c3] 35) := by show Vb _ _ _ _; rw [← hW, ← hS]; exact (Vb.new _ _ _).push _
  have R : Hid (Vb W (s + 1) #[.int .i64 0, .slice none 0 0, .slice none 0 0, .slice none 0 0, .slice none 0 0, .slice none 0 0, .slice none 0 0, .int .i64 0, .int .i64 0, .int .i64 0] 40) := by show Vb _ _ _ _; rw [← hW, z1]; exact Vb.new _ _ _
  have ZW : Hid (s + 2 = W.heap.size) := by show _ = _; rw [← hW, ← hS]; simp
  clear z1
  have D : Hid (Pl W a0 n0 c0 a1 n1 c1 a2 n2 c2 (some ⟨gp, 0, none⟩) n3 c3 P) := h.stay B0.out
  have SMP : Hid (Small n0 n1 n2 n3 P) := sm
  have N0 : Hid (n0 = P.own.length) := h.own.len
  have NI : Hid (IsS2 W ia il ic iss ∧ SwN W b ja jl jc jss) := ⟨hi.stay B0.out, hj.keep B0.out⟩
  have JL : Hid (jss.length = jl ∧ jl ≤ jc ∧ jc ≤ maxLen) := hj.len
  clear h hi hj sm
  have q0 := Q.out.cell 0 rfl
  have q1 := Q.out.cell 1 rfl
  have q2 := Q.out.cell 2 rfl
  have q3 := Q.out.cell 3 rfl
  go_enter Tryz.func25, Tryz.ntmps25
  go_wp2_with fail
  clear hW hS q0 q1 q2 q3
  refine (s_load _ _ _ _ _ _ _ _ _ _ _ _ P _ _ _ iss _ D.out NI.out.1).mono ?_
  rw [HLC.out]
  rintro e w1 ⟨mv, rfl, nm, b1⟩
  obtain ⟨la, lk, e0, _⟩ := nm.shape
  subst e0
  obtain ⟨ll, hll⟩ : ∃ n, (loadZ P iss).length = n := ⟨_, rfl⟩
  rw [hll] at nm ⊢
  clear hll
  have AL : Hid (Below w1.heap.size w1 (w1.alloc (.cells #[.int .i64 0, .slice la ll lk] 75))) := al (Below.refl _ _) _
  have E2 : Hid (Below W.heap.size W (w1.alloc (.cells #[.int .i64 0, .slice la ll lk] 75))) := al b1 _
  have B2 : Hid (Below w.heap.size w (w1.alloc (.cells #[.int .i64 0, .slice la ll lk] 75))) := on B0.out E2.out
  have R2 : Hid (Vb (w1.alloc (.cells #[.int .i64 0, .slice la ll lk] 75)) (s + 1) #[.int .i64 0, .slice none 0 0, .slice none 0 0, .slice none 0 0, .slice none 0 0, .slice none 0 0, .slice none 0 0, .int .i64 0, .int .i64 0, .int .i64 0] 40) := R.out.keep E2.out
  have Q2 : Hid (Vb (w1.alloc (.cells #[.int .i64 0, .slice la ll lk] 75)) s #[.slice a0 n0 c0, .slice a1 n1 c1, .slice a2 n2 c2, .slice (some ⟨gp, 0, none⟩) n3 c3] 35) := Q.out.keep E2.out
  have V2 : Hid (Vb (w1.alloc (.cells #[.int .i64 0, .slice la ll lk] 75)) w1.heap.size #[.int .i64 0, .slice la ll lk] 75) := Vb.new _ _ _
  have NM : Hid (Nums (w1.alloc (.cells #[.int .i64 0, .slice la ll lk] 75)) W.heap.size (.slice la ll lk) (loadZ P iss)) := nm.keep AL.out
  have LTs : Hid (s + 2 ≤ w1.heap.size ∧ w1.heap.size + 1 = (w1.alloc (.cells #[.int .i64 0, .slice la ll lk] 75)).heap.size) := ⟨by have := ZW.out; have := b1.size; omega, by simp⟩
  clear nm b1 AL
  go_upto_region 2 with fail
  generalize (w1.alloc (.cells #[.int .i64 0, .slice la ll lk] 75)) = W2 at *
  obtain ⟨t2, ht2⟩ : ∃ t, w1.heap.size = t := ⟨_, rfl⟩
  rw [ht2] at V2 LTs ⊢
  clear ht2
  have v0 := V2.out.cell 0 rfl
  have q0 := Q2.out.cell 0 rfl
  have hne : (jl : Int) = (n0 : Int) := by have := HL.out; have := N0.out; have := JL.out.1; omega
  have hne2 : jl = n0 := by omega
  have hjm : (jl : Int) ≤ 9223372036854775807 := by have := JL.out.2; unfold maxLen at this; omega
  rw [← hne2] at Q2 D SMP N0 q0 ⊢
  clear hne hne2
  go_upto_region 6 with fail
  clear v0 q0
  have P0 : Hid (0 < n3 ∧ (n3 : Int) ≤ 1048576) := ⟨by rw [D.out.plan.len]; exact plan_pos PP.out, by have := SMP.out.plan; omega⟩
  have PK : Hid (W2.cell? ⟨gp, 1, none⟩ = some (.int .i64 LV)) := by
    rcases D.out.plan.stay E2.out with ⟨h1, _⟩ | ⟨x, h1, _, _, h4, h5⟩
    · cases h1
    · cases h1
      have := (h5 0 P0.out.1).2
      rw [HLV.out, Addr.add_lit] at this
      exact this
  go_cut [8] from 27 to 36 (fun c wx => ∃ (q : Nat) (b0 b1a b2a b3 : Option Addr) (m0 g0 m1 g1 m2 g2 m3 g3 : Nat), c = .pointer (some ⟨q, 0, none⟩) ∧ Vb wx q #[.slice b0 m0 g0, .slice b1a m1 g1, .slice b2a m2 g2, .slice b3 m3 g3, .slice la ll lk, .slice none 0 0, .int .i64 0, .int .i64 LV, .int .i64 0] 38 ∧ WqE wx W2.heap.size (.slice b0 m0 g0) (.slice b1a m1 g1) (.slice b2a m2 g2) (.slice b3 m3 g3) P ∧ W2.heap.size ≤ q ∧ Below W2.heap.size W2 wx)
  case first =>
    have SU : Hid (Below W2.heap.size W2 W2.drew) := (Below.refl _ _).drew
    refine wp_region_held (S := fun w' => Below W2.heap.size W2 w') (by kernel_rfl) ?_
    change wpAnyH _ _ _ _ _ _ _ _ (World.drew _)
    generalize W2.drew = u0 at *
    refine wpAnyH_take (i := 0) (v := (.agg #[.slice a0 jl c0, .slice a1 n1 c1, .slice a2 n2 c2, .slice (some ⟨gp, 0, none⟩) n3 c3])) rfl (by kernel_rfl) (by kernel_rfl) (by kernel_rfl) (fun _ _ _ h => h) (Or.inl ⟨by rfl, fun w' hs => by have qv := Q2.out.keep hs; have y0 := qv.cell 0 rfl; have y1 := qv.cell 1 rfl; have y2 := qv.cell 2 rfl; have y3 := qv.cell 3 rfl; go_simp⟩) SU.out ?_
    change wpAnyH _ _ _ _ _ _ _ (Act.put _ (some 27) _) _
    simp only [Act.put, List.setIfInBounds_toArray, List.set_cons_zero, List.set_cons_succ]
    refine wpAnyH_take (i := 2) (v := (.pointer (some ⟨t2, 1, none⟩))) rfl (by kernel_rfl) (by kernel_rfl) (by kernel_rfl) (fun _ _ _ h => h) (Or.inl ⟨by rfl, fun w' hs => by go_simp⟩) SU.out ?_
    change wpAnyH _ _ _ _ _ _ _ (Act.put _ (some 29) _) _
    simp only [Act.put, List.setIfInBounds_toArray, List.set_cons_zero, List.set_cons_succ]
    refine wpAnyH_take (i := 3) (v := (.slice la ll lk)) rfl (by kernel_rfl) (by kernel_rfl) (by kernel_rfl) (fun _ _ _ h => h) (Or.inl ⟨by rfl, fun w' hs => by have y := (V2.out.keep hs).cell 1 rfl; go_simp⟩) SU.out ?_
    change wpAnyH _ _ _ _ _ _ _ (Act.put _ (some 30) _) _
    simp only [Act.put, List.setIfInBounds_toArray, List.set_cons_zero, List.set_cons_succ]
    refine wpAnyH_take (i := 4) (v := (.pointer (some ⟨s, 3, none⟩))) rfl (by kernel_rfl) (by kernel_rfl) (by kernel_rfl) (fun _ _ _ h => h) (Or.inl ⟨by rfl, fun w' hs => by go_simp⟩) SU.out ?_
    change wpAnyH _ _ _ _ _ _ _ (Act.put _ (some 31) _) _
    simp only [Act.put, List.setIfInBounds_toArray, List.set_cons_zero, List.set_cons_succ]
    refine wpAnyH_take (i := 5) (v := (.slice (some ⟨gp, 0, none⟩) n3 c3)) rfl (by kernel_rfl) (by kernel_rfl) (by kernel_rfl) (fun _ _ _ h => h) (Or.inl ⟨by rfl, fun w' hs => by have y := (Q2.out.keep hs).cell 3 rfl; go_simp⟩) SU.out ?_
    change wpAnyH _ _ _ _ _ _ _ (Act.put _ (some 32) _) _
    simp only [Act.put, List.setIfInBounds_toArray, List.set_cons_zero, List.set_cons_succ]
    refine wpAnyH_take (i := 6) (v := (.pointer (some ⟨gp, 0, none⟩))) rfl (by kernel_rfl) (by kernel_rfl) (by kernel_rfl) (fun _ _ _ h => h) (Or.inl ⟨by rfl, fun w' hs => by have i3 : ¬ n3 = 0 := (by have := P0.out.1; omega); have i1 : (0 : Int) < (n3 : Int) := (by omega); have i2 := P0.out.2; go_simp⟩) SU.out ?_
    change wpAnyH _ _ _ _ _ _ _ (Act.put _ (some 33) _) _
    simp only [Act.put, List.setIfInBounds_toArray, List.set_cons_zero, List.set_cons_succ]
    refine wpAnyH_take (i := 7) (v := (.pointer (some ⟨gp, 1, none⟩))) rfl (by kernel_rfl) (by kernel_rfl) (by kernel_rfl) (fun _ _ _ h => h) (Or.inl ⟨by rfl, fun w' hs => by go_simp⟩) SU.out ?_
    change wpAnyH _ _ _ _ _ _ _ (Act.put _ (some 34) _) _
    simp only [Act.put, List.setIfInBounds_toArray, List.set_cons_zero, List.set_cons_succ]
    refine wpAnyH_take (i := 8) (v := (.int .i64 LV)) rfl (by kernel_rfl) (by kernel_rfl) (by kernel_rfl) (fun _ _ _ h => h) (Or.inl ⟨by rfl, fun w' hs => by have y := cell_keep hs PK.out; go_simp⟩) SU.out ?_
    change wpAnyH _ _ _ _ _ _ _ (Act.put _ (some 35) _) _
    simp only [Act.put, List.setIfInBounds_toArray, List.set_cons_zero, List.set_cons_succ]
    refine wpAnyH_ready (rs := [1, 10]) (by kernel_rfl) (by simp) ?_
    refine AllReadyH.cons rfl (fun K hK => ?_) (AllReadyH.cons rfl (fun K hK => ?_) AllReadyH.nil)
    · skip
      rw [if_pos (by rfl)]
      go_simp
      refine (s_policy12 _ _ _ _ _ _ _ _ _ _ _ _ P _ ((D.out.stay E2.out).stay SU.out) SMP.out).mono ?_
      rintro e u1 ⟨_, _, _, _, rfl, wq, bq⟩
      obtain ⟨b0, b1a, b2a, b3, g0, g1, g2, g3, e0, e1, e2, e3⟩ := wq_shapes wq
      subst e0 e1 e2 e3
      obtain ⟨m0, hm0⟩ : ∃ n, P.own.length = n := ⟨_, rfl⟩
      obtain ⟨m1, hm1⟩ : ∃ n, P.lanes.length = n := ⟨_, rfl⟩
      obtain ⟨m2, hm2⟩ : ∃ n, P.bells.length = n := ⟨_, rfl⟩
      obtain ⟨m3, hm3⟩ : ∃ n, P.plan.length = n := ⟨_, rfl⟩
      rw [hm0, hm1, hm2, hm3] at wq ⊢
      have WQ : Hid (WqE u1 W2.heap.size (.slice b0 m0 g0) (.slice b1a m1 g1) (.slice b2a m2 g2) (.slice b3 m3 g3) P) := ⟨wq.own.mono SU.out.size, row_monoX wq.lanes SU.out.size, row_monoX wq.bells SU.out.size, row_monoX wq.plan SU.out.size⟩
      replace SU : Hid (Below W2.heap.size W2 u1) := on SU.out bq
      clear wq bq hm0 hm1 hm2 hm3
      refine hK.out _ _ SU.out (fun _ => ?_)
      clear hK K
      refine wpAnyH_take (i := 9) (v := (.agg #[.slice b0 m0 g0, .slice b1a m1 g1, .slice b2a m2 g2, .slice b3 m3 g3, .slice la ll lk, .slice none 0 0, .int .i64 0, .int .i64 LV, .int .i64 0])) rfl (by kernel_rfl) (by kernel_rfl) (by kernel_rfl) (fun _ _ _ h => h) (Or.inl ⟨by rfl, fun w' hs => by go_simp⟩) SU.out ?_
      change wpAnyH _ _ _ _ _ _ _ (Act.put _ (some 36) _) _
      simp only [Act.put, List.setIfInBounds_toArray, List.set_cons_zero, List.set_cons_succ]
      refine wpAnyH_ready (rs := [10]) (by kernel_rfl) (by simp) ?_
      refine AllReadyH.cons rfl (fun K hK => ?_) AllReadyH.nil
      rw [if_pos (by rfl)]
      go_simp
      have bq : Below u1.heap.size u1 (u1.alloc (.cells #[.slice none 0 0, .slice none 0 0, .slice none 0 0, .slice none 0 0, .slice none 0 0, .slice none 0 0, .int .i64 0, .int .i64 0, .int .i64 0] 38)) := al (Below.refl _ _) _
      have TQ : Hid (Vb (u1.alloc (.cells #[.slice none 0 0, .slice none 0 0, .slice none 0 0, .slice none 0 0, .slice none 0 0, .slice none 0 0, .int .i64 0, .int .i64 0, .int .i64 0] 38)) u1.heap.size #[.slice none 0 0, .slice none 0 0, .slice none 0 0, .slice none 0 0, .slice none 0 0, .slice none 0 0, .int .i64 0, .int .i64 0, .int .i64 0] 38) := Vb.new _ _ _
      obtain ⟨q, hq⟩ : ∃ q, u1.heap.size = q := ⟨_, rfl⟩
      have QB : Hid (W2.heap.size ≤ q) := by show _ ≤ _; rw [← hq]; exact SU.out.size
      rw [hq] at TQ ⊢
      generalize u1.alloc (.cells #[.slice none 0 0, .slice none 0 0, .slice none 0 0, .slice none 0 0, .slice none 0 0, .slice none 0 0, .int .i64 0, .int .i64 0, .int .i64 0] 38) = u2 at *
      replace WQ : Hid (WqE u2 W2.heap.size (.slice b0 m0 g0) (.slice b1a m1 g1) (.slice b2a m2 g2) (.slice b3 m3 g3) P) := WQ.out.keep bq
      replace SU : Hid (Below W2.heap.size W2 u2) := on SU.out bq
      clear bq hq
      refine hK.out _ _ SU.out (fun _ => ?_)
      clear hK K
      refine wpAnyH_ready (rs := [11]) (by kernel_rfl) (by simp) ?_
      refine AllReadyH.cons rfl (fun K hK => ?_) AllReadyH.nil
      rw [if_pos (by rfl)]
      refine wp_store_mid 38 (.tmp 8) (.tmp 36) rfl q 0 #[.slice b0 m0 g0, .slice b1a m1 g1, .slice b2a m2 g2, .slice b3 m3 g3, .slice la ll lk, .slice none 0 0, .int .i64 0, .int .i64 LV, .int .i64 0] rfl rfl (TQ.out.there 9 (by decide)) (by kernel_rfl) (by simp [Value.oneCell']) ?_
      change K (Act.put _ none undef) _
      simp only [Act.put]
      have NR : Hid (Vb (u2.setCells q 0 #[.slice b0 m0 g0, .slice b1a m1 g1, .slice b2a m2 g2, .slice b3 m3 g3, .slice la ll lk, .slice none 0 0, .int .i64 0, .int .i64 LV, .int .i64 0].toList) q #[.slice b0 m0 g0, .slice b1a m1 g1, .slice b2a m2 g2, .slice b3 m3 g3, .slice la ll lk, .slice none 0 0, .int .i64 0, .int .i64 LV, .int .i64 0] 38 ∧ Mq (fun k => k = q) u2 (u2.setCells q 0 #[.slice b0 m0 g0, .slice b1a m1 g1, .slice b2a m2 g2, .slice b3 m3 g3, .slice la ll lk, .slice none 0 0, .int .i64 0, .int .i64 LV, .int .i64 0].toList)) := nineX TQ.out _ _ _ _ _ _ _ _ _
      have KY : Ky (some 38) u2 (u2.setCells q 0 #[.slice b0 m0 g0, .slice b1a m1 g1, .slice b2a m2 g2, .slice b3 m3 g3, .slice la ll lk, .slice none 0 0, .int .i64 0, .int .i64 LV, .int .i64 0].toList) := ky_set TQ.out NR.out.2
      have W9 : Hid (WqE (u2.setCells q 0 #[.slice b0 m0 g0, .slice b1a m1 g1, .slice b2a m2 g2, .slice b3 m3 g3, .slice la ll lk, .slice none 0 0, .int .i64 0, .int .i64 LV, .int .i64 0].toList) W2.heap.size (.slice b0 m0 g0) (.slice b1a m1 g1) (.slice b2a m2 g2) (.slice b3 m3 g3) P) := WQ.out.ky KY (by decide) (by decide) (by decide) (by decide) (by decide)
      have B9 : Hid (Below W2.heap.size W2 (u2.setCells q 0 #[.slice b0 m0 g0, .slice b1a m1 g1, .slice b2a m2 g2, .slice b3 m3 g3, .slice la ll lk, .slice none 0 0, .int .i64 0, .int .i64 LV, .int .i64 0].toList)) := Mq.under SU.out NR.out.2 fun k e => by have := QB.out; omega
      clear KY
      generalize (u2.setCells q 0 #[.slice b0 m0 g0, .slice b1a m1 g1, .slice b2a m2 g2, .slice b3 m3 g3, .slice la ll lk, .slice none 0 0, .int .i64 0, .int .i64 LV, .int .i64 0].toList) = V9 at *
      refine hK.out _ _ B9.out (fun _ => ?_)
      clear hK K
      refine wpAnyH_done (by kernel_rfl) ?_ _
      go_wp2_with fail
      go_meet
      exact ⟨q, _, _, _, _, _, _, _, _, _, _, _, _, rfl, NR.out.1, W9.out, QB.out, B9.out⟩
    · skip
      rw [if_pos (by rfl)]
      go_simp
      have bq : Below u0.heap.size u0 (u0.alloc (.cells #[.slice none 0 0, .slice none 0 0, .slice none 0 0, .slice none 0 0, .slice none 0 0, .slice none 0 0, .int .i64 0, .int .i64 0, .int .i64 0] 38)) := al (Below.refl _ _) _
      have TQ : Hid (Vb (u0.alloc (.cells #[.slice none 0 0, .slice none 0 0, .slice none 0 0, .slice none 0 0, .slice none 0 0, .slice none 0 0, .int .i64 0, .int .i64 0, .int .i64 0] 38)) u0.heap.size #[.slice none 0 0, .slice none 0 0, .slice none 0 0, .slice none 0 0, .slice none 0 0, .slice none 0 0, .int .i64 0, .int .i64 0, .int .i64 0] 38) := Vb.new _ _ _
      obtain ⟨q, hq⟩ : ∃ q, u0.heap.size = q := ⟨_, rfl⟩
      have QB : Hid (W2.heap.size ≤ q) := by show _ ≤ _; rw [← hq]; exact SU.out.size
      rw [hq] at TQ ⊢
      generalize u0.alloc (.cells #[.slice none 0 0, .slice none 0 0, .slice none 0 0, .slice none 0 0, .slice none 0 0, .slice none 0 0, .int .i64 0, .int .i64 0, .int .i64 0] 38) = u1 at *
      replace SU : Hid (Below W2.heap.size W2 u1) := on SU.out bq
      clear bq hq
      refine hK.out _ _ SU.out (fun _ => ?_)
      clear hK K
      refine wpAnyH_ready (rs := [1]) (by kernel_rfl) (by simp) ?_
      refine AllReadyH.cons rfl (fun K hK => ?_) AllReadyH.nil
      rw [if_pos (by rfl)]
      go_simp
      refine (s_policy12 _ _ _ _ _ _ _ _ _ _ _ _ P _ ((D.out.stay E2.out).stay SU.out) SMP.out).mono ?_
      rintro e u2 ⟨_, _, _, _, rfl, wq, bq⟩
      obtain ⟨b0, b1a, b2a, b3, g0, g1, g2, g3, e0, e1, e2, e3⟩ := wq_shapes wq
      subst e0 e1 e2 e3
      obtain ⟨m0, hm0⟩ : ∃ n, P.own.length = n := ⟨_, rfl⟩
      obtain ⟨m1, hm1⟩ : ∃ n, P.lanes.length = n := ⟨_, rfl⟩
      obtain ⟨m2, hm2⟩ : ∃ n, P.bells.length = n := ⟨_, rfl⟩
      obtain ⟨m3, hm3⟩ : ∃ n, P.plan.length = n := ⟨_, rfl⟩
      rw [hm0, hm1, hm2, hm3] at wq ⊢
      have WQ : Hid (WqE u2 W2.heap.size (.slice b0 m0 g0) (.slice b1a m1 g1) (.slice b2a m2 g2) (.slice b3 m3 g3) P) := ⟨wq.own.mono SU.out.size, row_monoX wq.lanes SU.out.size, row_monoX wq.bells SU.out.size, row_monoX wq.plan SU.out.size⟩
      replace TQ : Hid (Vb u2 q #[.slice none 0 0, .slice none 0 0, .slice none 0 0, .slice none 0 0, .slice none 0 0, .slice none 0 0, .int .i64 0, .int .i64 0, .int .i64 0] 38) := TQ.out.keep bq
      replace SU : Hid (Below W2.heap.size W2 u2) := on SU.out bq
      clear wq bq hm0 hm1 hm2 hm3
      refine hK.out _ _ SU.out (fun _ => ?_)
      clear hK K
      refine wpAnyH_take (i := 9) (v := (.agg #[.slice b0 m0 g0, .slice b1a m1 g1, .slice b2a m2 g2, .slice b3 m3 g3, .slice la ll lk, .slice none 0 0, .int .i64 0, .int .i64 LV, .int .i64 0])) rfl (by kernel_rfl) (by kernel_rfl) (by kernel_rfl) (fun _ _ _ h => h) (Or.inl ⟨by rfl, fun w' hs => by go_simp⟩) SU.out ?_
      change wpAnyH _ _ _ _ _ _ _ (Act.put _ (some 36) _) _
      simp only [Act.put, List.setIfInBounds_toArray, List.set_cons_zero, List.set_cons_succ]
      refine wpAnyH_ready (rs := [11]) (by kernel_rfl) (by simp) ?_
      refine AllReadyH.cons rfl (fun K hK => ?_) AllReadyH.nil
      rw [if_pos (by rfl)]
      refine wp_store_mid 38 (.tmp 8) (.tmp 36) rfl q 0 #[.slice b0 m0 g0, .slice b1a m1 g1, .slice b2a m2 g2, .slice b3 m3 g3, .slice la ll lk, .slice none 0 0, .int .i64 0, .int .i64 LV, .int .i64 0] rfl rfl (TQ.out.there 9 (by decide)) (by kernel_rfl) (by simp [Value.oneCell']) ?_
      change K (Act.put _ none undef) _
      simp only [Act.put]
      have NR : Hid (Vb (u2.setCells q 0 #[.slice b0 m0 g0, .slice b1a m1 g1, .slice b2a m2 g2, .slice b3 m3 g3, .slice la ll lk, .slice none 0 0, .int .i64 0, .int .i64 LV, .int .i64 0].toList) q #[.slice b0 m0 g0, .slice b1a m1 g1, .slice b2a m2 g2, .slice b3 m3 g3, .slice la ll lk, .slice none 0 0, .int .i64 0, .int .i64 LV, .int .i64 0] 38 ∧ Mq (fun k => k = q) u2 (u2.setCells q 0 #[.slice b0 m0 g0, .slice b1a m1 g1, .slice b2a m2 g2, .slice b3 m3 g3, .slice la ll lk, .slice none 0 0, .int .i64 0, .int .i64 LV, .int .i64 0].toList)) := nineX TQ.out _ _ _ _ _ _ _ _ _
      have KY : Ky (some 38) u2 (u2.setCells q 0 #[.slice b0 m0 g0, .slice b1a m1 g1, .slice b2a m2 g2, .slice b3 m3 g3, .slice la ll lk, .slice none 0 0, .int .i64 0, .int .i64 LV, .int .i64 0].toList) := ky_set TQ.out NR.out.2
      have W9 : Hid (WqE (u2.setCells q 0 #[.slice b0 m0 g0, .slice b1a m1 g1, .slice b2a m2 g2, .slice b3 m3 g3, .slice la ll lk, .slice none 0 0, .int .i64 0, .int .i64 LV, .int .i64 0].toList) W2.heap.size (.slice b0 m0 g0) (.slice b1a m1 g1) (.slice b2a m2 g2) (.slice b3 m3 g3) P) := WQ.out.ky KY (by decide) (by decide) (by decide) (by decide) (by decide)
      have B9 : Hid (Below W2.heap.size W2 (u2.setCells q 0 #[.slice b0 m0 g0, .slice b1a m1 g1, .slice b2a m2 g2, .slice b3 m3 g3, .slice la ll lk, .slice none 0 0, .int .i64 0, .int .i64 LV, .int .i64 0].toList)) := Mq.under SU.out NR.out.2 fun k e => by have := QB.out; omega
      clear KY
      generalize (u2.setCells q 0 #[.slice b0 m0 g0, .slice b1a m1 g1, .slice b2a m2 g2, .slice b3 m3 g3, .slice la ll lk, .slice none 0 0, .int .i64 0, .int .i64 LV, .int .i64 0].toList) = V9 at *
      refine hK.out _ _ B9.out (fun _ => ?_)
      clear hK K
      refine wpAnyH_done (by kernel_rfl) ?_ _
      go_wp2_with fail
      go_meet
      exact ⟨q, _, _, _, _, _, _, _, _, _, _, _, _, rfl, NR.out.1, W9.out, QB.out, B9.out⟩
  case rest =>
  obtain ⟨q, b0, b1a, b2a, b3, m0, g0, m1, g1, m2, g2, m3, g3, rfl, hV, hQ, hq, hB⟩ := hcut
  obtain ⟨V, hVw⟩ : ∃ V, V = wc := ⟨_, rfl⟩
  subst hVw
  have VV : Hid (Vb V q #[.slice b0 m0 g0, .slice b1a m1 g1, .slice b2a m2 g2, .slice b3 m3 g3, .slice la ll lk, .slice none 0 0, .int .i64 0, .int .i64 LV, .int .i64 0] 38) := hV
  have WQ : Hid (WqE V W2.heap.size (.slice b0 m0 g0) (.slice b1a m1 g1) (.slice b2a m2 g2) (.slice b3 m3 g3) P) := hQ
  have QB : Hid (W2.heap.size ≤ q ∧ q < V.heap.size) := ⟨hq, hV.lt⟩
  have BV : Hid (Below W2.heap.size W2 V) := hB
  clear hV hQ hq hB
  go_wp2_with fail
  go_loopw [9, 10] (fun c _ wr => ∃ (j : Nat) (v : Value) (qs : List (V4 × Ht)), j ≤ jl ∧ c = .int .i64 (j : Int) ∧ Vb wr q #[.slice b0 m0 g0, .slice b1a m1 g1, .slice b2a m2 g2, .slice b3 m3 g3, .slice la ll lk, v, .int .i64 0, .int .i64 LV, .int .i64 0] 38 ∧ WqE wr W2.heap.size (.slice b0 m0 g0) (.slice b1a m1 g1) (.slice b2a m2 g2) (.slice b3 m3 g3) P ∧ Mw wr V.heap.size v jss j qs ∧ Hid (nhC jss = nhC (jss.drop j)) ∧ Below W2.heap.size W2 wr ∧ V.heap.size ≤ wr.heap.size) (fun c _ _ => jl - (intOf c).toNat)
  case atStart => exact ⟨0, .slice none 0 0, [], Nat.zero_le _, rfl, VV.out, WQ.out, ⟨rfl, World.ownsRow_nil _ _ _ _, fun i q e => by simp at e, by simp⟩, rfl, BV.out, Nat.le_refl _⟩
  case round =>
    obtain ⟨j, v, qs, hj, rfl, hX, hW, hM, HD, hB, hZ⟩ := hrel
    obtain ⟨va, vc, hv⟩ := row_shape hM.row
    rw [hM.len] at hv
    subst hv
    have HX : Hid (Vb wr q #[.slice b0 m0 g0, .slice b1a m1 g1, .slice b2a m2 g2, .slice b3 m3 g3, .slice la ll lk, .slice va j vc, .int .i64 0, .int .i64 LV, .int .i64 0] 38) := hX
    have HW : Hid (WqE wr W2.heap.size (.slice b0 m0 g0) (.slice b1a m1 g1) (.slice b2a m2 g2) (.slice b3 m3 g3) P) := hW
    have HM : Hid (Mw wr V.heap.size (.slice va j vc) jss j qs) := hM
    have HB : Hid (Below W2.heap.size W2 wr ∧ V.heap.size ≤ wr.heap.size) := ⟨hB, hZ⟩
    clear hX hW hM hZ
    by_cases hlt : j < jl
    · have hI : (j : Int) < (jl : Int) := by omega
      have HLT : Hid (j < jl) := hlt
      obtain ⟨gj, hgj, _, _, _, hrow⟩ : ∃ g, ja = some ⟨g, 0, none⟩ ∧ jl ≤ jc ∧ jc ≤ maxLen ∧ jss.length = jl ∧ ∀ i, i < jl → ∃ x l k, wr.cell? ⟨g, i, none⟩ = some (.slice x l k) ∧ Nums wr b (.slice x l k) (jss.getD i []) := by
        rcases (NI.out.2.keep E2.out).keep hB with ⟨_, h0, _, _⟩ | h
        · omega
        · exact h
      subst hgj
      obtain ⟨rx, rl, rk, k1, k2⟩ := hrow j hlt
      obtain ⟨zs, hzs⟩ : ∃ z, jss.getD j [] = z := ⟨_, rfl⟩
      have HZS : Hid (jss.getD j [] = zs) := hzs
      rw [hzs] at k2
      have KN : Hid (Nums wr b (.slice rx rl rk) zs) := k2
      clear hlt hB k2 hrow hzs
      go_wp2_with fail
      clear k1
      refine (s_newHart8 _ zs b _ KN.out).mono ?_
      rintro e w3 ⟨rv, cv, iv, ov, rfl, hm, ha, b3'⟩
      obtain ⟨da, dk, e0, _⟩ := hm.r.shape
      obtain ⟨db, dl, e1, _⟩ := hm.c.shape
      obtain ⟨dc, dm, e2, _⟩ := hm.i.shape
      obtain ⟨dd, dn, e3, _⟩ := hm.o.shape
      subst e0 e1 e2 e3
      obtain ⟨CX, hCX⟩ : ∃ c, (newR zs).1 = c := ⟨_, rfl⟩
      obtain ⟨H, hH⟩ : ∃ c, (newR zs).2 = c := ⟨_, rfl⟩
      rw [hCX, hH]
      rw [hH] at hm ha
      obtain ⟨d0, hd0⟩ : ∃ n, H.regs.length = n := ⟨_, rfl⟩
      obtain ⟨d1, hd1⟩ : ∃ n, H.csr.length = n := ⟨_, rfl⟩
      obtain ⟨d2, hd2⟩ : ∃ n, H.inn.length = n := ⟨_, rfl⟩
      obtain ⟨d3, hd3⟩ : ∃ n, H.out.length = n := ⟨_, rfl⟩
      rw [hd0, hd1, hd2, hd3] at hm ha ⊢
      have HCH : Hid ((newR zs).1 = CX ∧ (newR zs).2 = H) := ⟨hCX, hH⟩
      clear hd0 hd1 hd2 hd3 hCX hH
      have AL : Hid (Below w3.heap.size w3 (w3.alloc (.cells #[.int .i64 CX, .slice da d0 dk, .int .i64 H.pc, .slice db d1 dl, .bool H.halted, .bool H.waiting, .bool H.rung, .int .i64 H.done, .slice dc d2 dm, .slice dd d3 dn] 83))) := al (Below.refl _ _) _
      have E3 : Hid (Below wr.heap.size wr (w3.alloc (.cells #[.int .i64 CX, .slice da d0 dk, .int .i64 H.pc, .slice db d1 dl, .bool H.halted, .bool H.waiting, .bool H.rung, .int .i64 H.done, .slice dc d2 dm, .slice dd d3 dn] 83))) := al b3' _
      have V3 : Hid (Vb (w3.alloc (.cells #[.int .i64 CX, .slice da d0 dk, .int .i64 H.pc, .slice db d1 dl, .bool H.halted, .bool H.waiting, .bool H.rung, .int .i64 H.done, .slice dc d2 dm, .slice dd d3 dn] 83)) w3.heap.size #[.int .i64 CX, .slice da d0 dk, .int .i64 H.pc, .slice db d1 dl, .bool H.halted, .bool H.waiting, .bool H.rung, .int .i64 H.done, .slice dc d2 dm, .slice dd d3 dn] 83) := Vb.new _ _ _
      have HM3 : Hid (Hm (w3.alloc (.cells #[.int .i64 CX, .slice da d0 dk, .int .i64 H.pc, .slice db d1 dl, .bool H.halted, .bool H.waiting, .bool H.rung, .int .i64 H.done, .slice dc d2 dm, .slice dd d3 dn] 83)) wr.heap.size (.slice da d0 dk) (.slice db d1 dl) (.slice dc d2 dm) (.slice dd d3 dn) H ∧ Ha (.slice da d0 dk) (.slice db d1 dl) (.slice dc d2 dm) (.slice dd d3 dn)) := ⟨hm.keep AL.out, ha⟩
      clear hm ha b3' AL
      go_upto_region 11 with fail
      generalize (w3.alloc (.cells #[.int .i64 CX, .slice da d0 dk, .int .i64 H.pc, .slice db d1 dl, .bool H.halted, .bool H.waiting, .bool H.rung, .int .i64 H.done, .slice dc d2 dm, .slice dd d3 dn] 83)) = W3 at *
      generalize w3.heap.size = t3 at *
      have v0 := V3.out.cell 0 rfl
      by_cases hc0 : CX = 0
      · subst hc0
        have HOK : Hid (H = newV (jss.getD j [])) := by
          have h1 := HCH.out.1
          have h2 := HCH.out.2
          rw [HZS.out, ← h2]
          unfold newR at h1 ⊢
          split at h1
          · cases h1
          rename_i hq
          rw [if_neg hq]
          cases ew : zs.all isW with
          | false => rw [ew] at h1; cases h1
          | true => rfl
        have ND : Hid (nhC jss = nhC (jss.drop (j + 1))) := by
          show _ = _
          rw [HD.out]
          exact nh_drop jss j (by have := HLT.out; have := JL.out.1; omega) (by rw [HZS.out]; exact HCH.out.1)
        have X3 : Hid (Vb W3 q #[.slice b0 m0 g0, .slice b1a m1 g1, .slice b2a m2 g2, .slice b3 m3 g3, .slice la ll lk, .slice va j vc, .int .i64 0, .int .i64 LV, .int .i64 0] 38) := HX.out.keep E3.out
        have x5 := X3.out.cell 5 rfl
        have v1 := V3.out.cell 1 rfl
        have v2 := V3.out.cell 2 rfl
        have v3 := V3.out.cell 3 rfl
        have v4 := V3.out.cell 4 rfl
        have v5 := V3.out.cell 5 rfl
        have v6 := V3.out.cell 6 rfl
        have v7 := V3.out.cell 7 rfl
        have v8 := V3.out.cell 8 rfl
        have v9 := V3.out.cell 9 rfl
        have WL : Hid (V.heap.size ≤ W3.heap.size ∧ V.heap.size ≤ wr.heap.size) := ⟨Nat.le_trans HB.out.2 E3.out.size, HB.out.2⟩
        go_wp2_with (
          at_builtin
          refine wp_hartsX _ rfl _ _ rfl V.heap.size (.slice va j vc) qs rfl ((row_keepX HM.out.row E3.out).alloc _) W3.heap.size (⟨.slice da d0 dk, .slice db d1 dl, .slice dc d2 dm, .slice dd d3 dn⟩ : V4) H rfl (range_new _ _ _) (by intro u hu; simp only [V4.l, List.mem_cons, List.not_mem_nil, or_false] at hu; rcases hu with rfl | rfl | rfl | rfl <;> rfl) (by have := HM.out.len; have := HLT.out; have := JL.out.1; have := HL.out; have := SMP.out.own; omega) (by have := WL.out.1; simp; omega) ?_
          intro v' w' hN' hG'
          obtain ⟨va', vc', hv'⟩ := row_shape hN'
          rw [List.length_append, HM.out.len] at hv'
          subst hv'
          have AL : Hid (Below W3.heap.size W3 (W3.alloc (.cells #[.slice da d0 dk, .int .i64 H.pc, .slice db d1 dl, .bool H.halted, .bool H.waiting, .bool H.rung, .int .i64 H.done, .slice dc d2 dm, .slice dd d3 dn] 81))) := al (Below.refl _ _) _
          have RK : Hid ((W3.alloc (.cells #[.slice da d0 dk, .int .i64 H.pc, .slice db d1 dl, .bool H.halted, .bool H.waiting, .bool H.rung, .int .i64 H.done, .slice dc d2 dm, .slice dd d3 dn] 81)).ownsRow V.heap.size 81 9 (.slice va j vc) qs.length (flat9 qs)) := row_keepX (row_keepX HM.out.row E3.out) AL.out
          have KY : Hid (Ky (some 81) (W3.alloc (.cells #[.slice da d0 dk, .int .i64 H.pc, .slice db d1 dl, .bool H.halted, .bool H.waiting, .bool H.rung, .int .i64 H.done, .slice dc d2 dm, .slice dd d3 dn] 81)) w') := ky_row RK.out hG'
          have MN : Hid (Mw w' V.heap.size (.slice va' (j + 1) vc') jss (j + 1) (qs ++ [((⟨.slice da d0 dk, .slice db d1 dl, .slice dc d2 dm, .slice dd d3 dn⟩ : V4), H)])) := HM.out.step (on E3.out AL.out) (HM3.out.1.keep AL.out) HM3.out.2 WL.out.2 HOK.out hN' hG'
          have B' : Hid (Below W2.heap.size W2 w') := (on (on HB.out.1 E3.out) AL.out).grown hG' (by have := WL.out.1; have := BV.out.size; simp; omega) (fun k e => by have := (HM.out.row.lt k e).1; have := BV.out.size; omega)
          have X' : Hid (Vb w' q #[.slice b0 m0 g0, .slice b1a m1 g1, .slice b2a m2 g2, .slice b3 m3 g3, .slice la ll lk, .slice va j vc, .int .i64 0, .int .i64 LV, .int .i64 0] 38) := KY.out.vb (X3.out.keep AL.out) (by decide)
          have Wq' : Hid (WqE w' W2.heap.size (.slice b0 m0 g0) (.slice b1a m1 g1) (.slice b2a m2 g2) (.slice b3 m3 g3) P) := ((HW.out.keep E3.out).keep AL.out).ky KY.out (by decide) (by decide) (by decide) (by decide) (by decide)
          have Z' : Hid (V.heap.size ≤ w'.heap.size) := by have := WL.out.1; have := AL.out.size; have := hG'.size; show _ ≤ _; omega
          have y5 := X'.out.cell 5 rfl
          have f5 := X'.out.free 5
          have lq := X'.out.lt
          have M9 : Hid (Mq (fun k => k = q) w' (w'.setCell ⟨q, 5, none⟩ (.slice va' (j + 1) vc'))) := (Mq.refl _ _).set _ _ rfl
          have X9 : Hid (Vb (w'.setCell ⟨q, 5, none⟩ (.slice va' (j + 1) vc')) q #[.slice b0 m0 g0, .slice b1a m1 g1, .slice b2a m2 g2, .slice b3 m3 g3, .slice la ll lk, .slice va' (j + 1) vc', .int .i64 0, .int .i64 LV, .int .i64 0] 38) := X'.out.set 5 _
          have K9 : Hid (Ky (some 38) w' (w'.setCell ⟨q, 5, none⟩ (.slice va' (j + 1) vc'))) := ky_set X'.out M9.out
          clear hN' hG' v0 v1 v2 v3 v4 v5 v6 v7 v8 v9 x5 KY RK AL)
        go_roundw
        case rel => exact ⟨j + 1, _, _, by have := HLT.out; omega, by go_num, X9.out, Wq'.out.ky K9.out (by decide) (by decide) (by decide) (by decide) (by decide), MN.out.ky K9.out (by decide) (by decide), ND.out, Mq.under B'.out M9.out (fun k e => by have := QB.out; omega), Nat.le_trans Z'.out M9.out.size⟩
        case measure => have := HLT.out; simp [intOf]; omega
      · have eBC : Hid (BC = CX ∧ BX = voidX) := by
          have hs := nh_stop jss j (by have := HLT.out; have := JL.out.1; omega) (by rw [HZS.out, HCH.out.1]; exact hc0)
          have e1 : BC = CX := by rw [← HBX.out.2.2, HD.out, hs, HZS.out, HCH.out.1]
          exact ⟨e1, by rw [← HBX.out.2.1]; exact bh_not _ _ _ (by rw [HBX.out.1, e1]; exact hc0)⟩
        have R3 : Hid (Vb W3 (s + 1) #[.int .i64 0, .slice none 0 0, .slice none 0 0, .slice none 0 0, .slice none 0 0, .slice none 0 0, .slice none 0 0, .int .i64 0, .int .i64 0, .int .i64 0] 40) := (R2.out.keep HB.out.1).keep E3.out
        have B3 : Hid (Below w.heap.size w W3) := on (on B2.out HB.out.1) E3.out
        have p0 := R3.out.cell 0 rfl
        have f0 := R3.out.free 0
        have p1 := R3.out.cell 1 rfl
        have f1 := R3.out.free 1
        have p2 := R3.out.cell 2 rfl
        have f2 := R3.out.free 2
        have p3 := R3.out.cell 3 rfl
        have f3 := R3.out.free 3
        have p4 := R3.out.cell 4 rfl
        have f4 := R3.out.free 4
        have p5 := R3.out.cell 5 rfl
        have f5 := R3.out.free 5
        have p6 := R3.out.cell 6 rfl
        have f6 := R3.out.free 6
        have p7 := R3.out.cell 7 rfl
        have f7 := R3.out.free 7
        have p8 := R3.out.cell 8 rfl
        have f8 := R3.out.free 8
        have p9 := R3.out.cell 9 rfl
        have f9 := R3.out.free 9
        have lt := R3.out.lt
        go_wp2_with fail
        clear lt p0 f0 p1 f1 p2 f2 p3 f3 p4 f4 p5 f5 p6 f6 p7 f7 p8 f8 p9 f9
        have NN : Hid (_ ∧ _) := ten R3.out (.int .i64 CX) (.slice none 0 0) (.slice none 0 0) (.slice none 0 0) (.slice none 0 0) (.slice none 0 0) (.slice none 0 0) (.int .i64 0) (.int .i64 0) (.int .i64 0)
        generalize ((((((((((W3.setCell ⟨s + 1, 0, none⟩ (.int .i64 CX)).setCell ⟨s + 1, 1, none⟩ (.slice none 0 0)).setCell ⟨s + 1, 2, none⟩ (.slice none 0 0)).setCell ⟨s + 1, 3, none⟩ (.slice none 0 0)).setCell ⟨s + 1, 4, none⟩ (.slice none 0 0)).setCell ⟨s + 1, 5, none⟩ (.slice none 0 0)).setCell ⟨s + 1, 6, none⟩ (.slice none 0 0)).setCell ⟨s + 1, 7, none⟩ (.int .i64 0)).setCell ⟨s + 1, 8, none⟩ (.int .i64 0)).setCell ⟨s + 1, 9, none⟩ (.int .i64 0)) = W9 at *
        have x0 := NN.out.1.cell 0 rfl
        have x1 := NN.out.1.cell 1 rfl
        have x2 := NN.out.1.cell 2 rfl
        have x3 := NN.out.1.cell 3 rfl
        have x4 := NN.out.1.cell 4 rfl
        have x5 := NN.out.1.cell 5 rfl
        have x6 := NN.out.1.cell 6 rfl
        have x7 := NN.out.1.cell 7 rfl
        have x8 := NN.out.1.cell 8 rfl
        have x9 := NN.out.1.cell 9 rfl
        exact bodyPost_ret (v := .agg #[.int .i64 CX, .slice none 0 0, .slice none 0 0, .slice none 0 0, .slice none 0 0, .slice none 0 0, .slice none 0 0, .int .i64 0, .int .i64 0, .int .i64 0]) (by simp [results, Tryz.results25, go_sem, x0, x1, x2, x3, x4, x5, x6, x7, x8, x9]) rfl ⟨_, _, _, _, _, _, by rw [eBC.out.1, eBC.out.2]; rfl, by rw [eBC.out.2]; exact (ow_void _ _).oq, Mq.under B3.out NN.out.2 fun k e => by have := HSs.out; omega⟩
    · have hJ : ¬ (j : Int) < (jl : Int) := by omega
      have JN : Hid (j = jl) := by show _ = _; omega
      clear hlt hB hj
      have NZ : Hid (BC = 0 ∧ BX = ⟨P, loadZ P iss, jss.map newV, 0, LV, 0⟩) := by
        have e0 : nhC jss = 0 := by rw [HD.out, JN.out, ← JL.out.1, List.drop_length]; rfl
        have e1 : BC = 0 := by rw [← HBX.out.2.2, e0]
        exact ⟨e1, by rw [← HBX.out.2.1, ← HLV.out]; exact bh_yes _ _ _ (by rw [HBX.out.1, e1])⟩
      have R3 : Hid (Vb wr (s + 1) #[.int .i64 0, .slice none 0 0, .slice none 0 0, .slice none 0 0, .slice none 0 0, .slice none 0 0, .slice none 0 0, .int .i64 0, .int .i64 0, .int .i64 0] 40) := R2.out.keep HB.out.1
      have y0 := HX.out.cell 0 rfl
      have y1 := HX.out.cell 1 rfl
      have y2 := HX.out.cell 2 rfl
      have y3 := HX.out.cell 3 rfl
      have y4 := HX.out.cell 4 rfl
      have y5 := HX.out.cell 5 rfl
      have y6 := HX.out.cell 6 rfl
      have y7 := HX.out.cell 7 rfl
      have y8 := HX.out.cell 8 rfl
      have p0 := R3.out.cell 0 rfl
      have f0 := R3.out.free 0
      have p1 := R3.out.cell 1 rfl
      have f1 := R3.out.free 1
      have p2 := R3.out.cell 2 rfl
      have f2 := R3.out.free 2
      have p3 := R3.out.cell 3 rfl
      have f3 := R3.out.free 3
      have p4 := R3.out.cell 4 rfl
      have f4 := R3.out.free 4
      have p5 := R3.out.cell 5 rfl
      have f5 := R3.out.free 5
      have p6 := R3.out.cell 6 rfl
      have f6 := R3.out.free 6
      have p7 := R3.out.cell 7 rfl
      have f7 := R3.out.free 7
      have p8 := R3.out.cell 8 rfl
      have f8 := R3.out.free 8
      have p9 := R3.out.cell 9 rfl
      have f9 := R3.out.free 9
      have lt := R3.out.lt
      go_wp2_with fail
      clear lt y0 y1 y2 y3 y4 y5 y6 y7 y8 p0 f0 p1 f1 p2 f2 p3 f3 p4 f4 p5 f5 p6 f6 p7 f7 p8 f8 p9 f9
      have NN : Hid (_ ∧ _) := ten R3.out (.int .i64 0) (.slice b0 m0 g0) (.slice b1a m1 g1) (.slice b2a m2 g2) (.slice b3 m3 g3) (.slice la ll lk) (.slice va j vc) (.int .i64 0) (.int .i64 LV) (.int .i64 0)
      have O9 : Hid (Ho (s + 2) wr ((((((((((wr.setCell ⟨s + 1, 0, none⟩ (.int .i64 0)).setCell ⟨s + 1, 1, none⟩ (.slice b0 m0 g0)).setCell ⟨s + 1, 2, none⟩ (.slice b1a m1 g1)).setCell ⟨s + 1, 3, none⟩ (.slice b2a m2 g2)).setCell ⟨s + 1, 4, none⟩ (.slice b3 m3 g3)).setCell ⟨s + 1, 5, none⟩ (.slice la ll lk)).setCell ⟨s + 1, 6, none⟩ (.slice va j vc)).setCell ⟨s + 1, 7, none⟩ (.int .i64 0)).setCell ⟨s + 1, 8, none⟩ (.int .i64 LV)).setCell ⟨s + 1, 9, none⟩ (.int .i64 0))) := NN.out.2.ho fun k e => by omega
      generalize ((((((((((wr.setCell ⟨s + 1, 0, none⟩ (.int .i64 0)).setCell ⟨s + 1, 1, none⟩ (.slice b0 m0 g0)).setCell ⟨s + 1, 2, none⟩ (.slice b1a m1 g1)).setCell ⟨s + 1, 3, none⟩ (.slice b2a m2 g2)).setCell ⟨s + 1, 4, none⟩ (.slice b3 m3 g3)).setCell ⟨s + 1, 5, none⟩ (.slice la ll lk)).setCell ⟨s + 1, 6, none⟩ (.slice va j vc)).setCell ⟨s + 1, 7, none⟩ (.int .i64 0)).setCell ⟨s + 1, 8, none⟩ (.int .i64 LV)).setCell ⟨s + 1, 9, none⟩ (.int .i64 0)) = W9 at *
      have x0 := NN.out.1.cell 0 rfl
      have x1 := NN.out.1.cell 1 rfl
      have x2 := NN.out.1.cell 2 rfl
      have x3 := NN.out.1.cell 3 rfl
      have x4 := NN.out.1.cell 4 rfl
      have x5 := NN.out.1.cell 5 rfl
      have x6 := NN.out.1.cell 6 rfl
      have x7 := NN.out.1.cell 7 rfl
      have x8 := NN.out.1.cell 8 rfl
      have x9 := NN.out.1.cell 9 rfl
      have z2 := ZW.out
      have z3 := LTs.out
      have z4 := BV.out.size
      have z5 := HSs.out
      have F : Hid (Oq W9 w.heap.size (.slice b0 m0 g0) (.slice b1a m1 g1) (.slice b2a m2 g2) (.slice b3 m3 g3) (.slice la ll lk) (.slice va j vc) ⟨P, loadZ P iss, jss.map newV, 0, LV, 0⟩) := by
        have hs2 : s + 2 ≤ W2.heap.size := by omega
        obtain ⟨xs, k1, k2, k3⟩ := HW.out.own
        have own9 : SvO W9 (s + 2) (.slice b0 m0 g0) P.own := ⟨xs, k1, row_hoX (row_monoX k2 hs2) O9.out, fun i x e => ((k3 i x e).mono hs2).ho O9.out⟩
        have mem9 : Nums W9 (s + 2) (.slice la ll lk) (loadZ P iss) := (((NM.out.keep HB.out.1).mono (by omega)).ho O9.out)
        have mw9 : Mw W9 V.heap.size (.slice va j vc) jss j qs := HM.out.hoX (ho_lessX O9.out (by omega))
        refine ⟨own9.mono (by omega), row_monoX (row_hoX (row_monoX HW.out.lanes hs2) O9.out) (by omega), row_monoX (row_hoX (row_monoX HW.out.bells hs2) O9.out) (by omega), row_monoX (row_hoX (row_monoX HW.out.plan hs2) O9.out) (by omega), mem9.mono (by omega), qs, row_monoX mw9.row (by omega), ?_, fun q hq => ?_⟩
        · apply List.ext_getElem (by rw [List.length_map, mw9.len, JN.out, List.length_map]; exact JL.out.1.symm)
          intro i h1 h2
          rw [List.length_map] at h1
          have e := (mw9.one i qs[i] (List.getElem?_eq_getElem h1)).1
          rw [List.getElem_map, List.getElem_map, e, List.getD, List.getElem?_eq_getElem (by rw [List.length_map] at h2; exact h2)]
          rfl
        · obtain ⟨i, hi, e⟩ := List.mem_iff_getElem.1 hq
          exact (mw9.one i q (by rw [List.getElem?_eq_getElem hi, e])).2.mono (by omega)
      exact bodyPost_ret (v := .agg #[.int .i64 0, .slice b0 m0 g0, .slice b1a m1 g1, .slice b2a m2 g2, .slice b3 m3 g3, .slice la ll lk, .slice va j vc, .int .i64 0, .int .i64 LV, .int .i64 0]) (by simp [results, Tryz.results25, go_sem, x0, x1, x2, x3, x4, x5, x6, x7, x8, x9]) rfl ⟨_, _, _, _, _, _, by rw [NZ.out.1, NZ.out.2], by rw [NZ.out.2]; exact F.out, Mq.under (on B2.out HB.out.1) NN.out.2 fun k e => by have := HSs.out; omega⟩
theorem s_bootHostO (a0 a1 a2 a3 : Option Addr) (n0 c0 n1 c1 n2 c2 n3 c3 : Nat) (P : Plc) (ia : Option Addr) (il ic : Nat) (iss : List (List Int)) (ja : Option Addr) (jl jc : Nat) (jss : List (List Int)) (b : Nat) (w : World) (h : Pl w a0 n0 c0 a1 n1 c1 a2 n2 c2 a3 n3 c3 P) (sm : Small n0 n1 n2 n3 P) (hi : IsS2 w ia il ic iss) (hj : SwN w b ja jl jc jss) (h3 : 0 < n3 → ∃ g, a3 = some ⟨g, 0, none⟩) :
    Calls Tryz.prog 25 #[.agg #[.slice a0 n0 c0, .slice a1 n1 c1, .slice a2 n2 c2, .slice a3 n3 c3], .slice ia il ic, .slice ja jl jc] w fun e w' => ∃ v0 v1 v2 v3 v4 v5, e = .returned (.agg #[.int .i64 (bhC P iss jss), v0, v1, v2, v3, v4, v5, .int .i64 (bhX P iss jss).slot, .int .i64 (bhX P iss jss).left, .int .i64 (bhX P iss jss).clock]) ∧ Oq w' w.heap.size v0 v1 v2 v3 v4 v5 (bhX P iss jss) ∧ Below w.heap.size w w' := by
  by_cases hv : loadC P iss = 0
  · by_cases hl : jss.length = P.own.length
    · exact sbh_run _ _ _ _ _ _ _ _ _ _ _ _ P _ _ _ iss _ _ _ jss b w h sm hi hj h3 hv hl
    · exact sbh_many _ _ _ _ _ _ _ _ _ _ _ _ P _ _ _ iss _ _ _ jss b w h sm hi hj hv hl
  · exact sbh_load _ _ _ _ _ _ _ _ _ _ _ _ P _ _ _ iss _ _ _ jss b w h sm hi hj hv
end Go.Proofs.YtmgninipaigjfaaGreatDoor
namespace Go.Proofs.YtmgninipaigjfaaGreatDoor
open Go.RowKit
set_option linter.unusedVariables false

theorem swn_put {w : World} {b g n c : Nat} {jss : List (List Int)} {p : Addr} {u : Value} (h : SwN w b (some ⟨g, 0, none⟩) n c jss) (hp : g ≠ p.block) (kp : ∀ (x : Value) (ys : List Int), Nums w b x ys → Nums (w.setCell p u) b x ys) : SwN (w.setCell p u) b (some ⟨g, 0, none⟩) n c jss := by
  rcases h with ⟨h, _⟩ | ⟨g', h1, h2, h3, h4, h5⟩
  · cases h
  cases h1
  refine .inr ⟨g, rfl, h2, h3, h4, fun i hi => ?_⟩
  obtain ⟨x, l, k, k1, k2⟩ := h5 i hi
  exact ⟨x, l, k, by rw [World.cell?_setCell_other _ _ _ _ (fun e => hp (by rw [e]))]; exact k1, kp _ _ k2⟩
set_option maxRecDepth 20000 in
set_option maxHeartbeats 8000000 in
theorem stw_fault (a0 a1 a2 a3 : Option Addr) (n0 c0 n1 c1 n2 c2 n3 c3 : Nat) (P : Plc) (ga il ic : Nat) (iss : List (List Int)) (gb jl jc : Nat) (jss : List (List Int)) (gu : Int) (ma : Option Addr) (ml mk : Nat) (im : List Int) (pa : Option Addr) (pl pk : Nat) (inp : List Int) (bi bj bm bp : Nat) (w : World) (h : Pl w a0 n0 c0 a1 n1 c1 a2 n2 c2 a3 n3 c3 P) (sm : Small n0 n1 n2 n3 P) (hi : SwN w bi (some ⟨ga, 0, none⟩) il ic iss) (hj : SwN w bj (some ⟨gb, 0, none⟩) jl jc jss) (hm : Nums w bm (.slice ma ml mk) im) (hp : Nums w bp (.slice pa pl pk) inp) (hil : il ≤ 1048576) (hjl : jl ≤ 1048576) (h3 : 0 < n3 → ∃ g, a3 = some ⟨g, 0, none⟩) (hv : askV P gu ≠ 0) :
    Calls Tryz.prog 6 #[.agg #[.slice a0 n0 c0, .slice a1 n1 c1, .slice a2 n2 c2, .slice a3 n3 c3], .slice (some ⟨ga, 0, none⟩) il ic, .slice (some ⟨gb, 0, none⟩) jl jc, .int .i64 gu, .slice ma ml mk, .slice pa pl pk] w fun e w' => ∃ v0 v1 v2 v3 v4 v5, e = .returned (.agg #[.int .i64 (twC P iss jss gu im inp), v0, v1, v2, v3, v4, v5, .int .i64 (twX P iss jss gu im inp).slot, .int .i64 (twX P iss jss gu im inp).left, .int .i64 (twX P iss jss gu im inp).clock]) ∧ Oq w' w.heap.size v0 v1 v2 v3 v4 v5 (twX P iss jss gu im inp) ∧ Below w.heap.size w w' := by
  have hk : twK P iss jss gu = askV P gu := by rw [twK, if_neg hv]
  have hx : twC P iss jss gu im inp = askV P gu := by rw [twC, if_neg (by rw [hk]; exact hv), hk]
  have hX : twX P iss jss gu im inp = voidX := by rw [twX, if_neg (by rw [hk]; exact hv)]
  rw [hx, hX]
  obtain ⟨cx, hcx⟩ : ∃ cx, askV P gu = cx := ⟨_, rfl⟩
  rw [hcx] at hv ⊢
  have HV : Hid (askV P gu = cx) := hcx
  clear hx hcx hk hX
  generalize hW : (w.alloc (.cells #[.slice a0 n0 c0, .slice a1 n1 c1, .slice a2 n2 c2, .slice a3 n3 c3] 35)).alloc (.cells #[.int .i64 0, .slice none 0 0, .slice none 0 0, .slice none 0 0, .slice none 0 0, .slice none 0 0, .slice none 0 0, .int .i64 0, .int .i64 0, .int .i64 0] 40) = W
  have B0 : Hid (Below w.heap.size w W) := by show Below _ _ _; rw [← hW]; exact al (al (Below.refl _ _) _) _
  obtain ⟨s, hS⟩ : ∃ s, w.heap.size = s := ⟨_, rfl⟩
  have HSs : Hid (w.heap.size = s) := hS
  have z1 : s + 1 = (w.alloc (.cells #[.slice a0 n0 c0, .slice a1 n1 c1, .slice a2 n2 c2, .slice a3 n3 c3] 35)).heap.size := by rw [← hS]; simp
  have Q : Hid (Vb W s #[.slice a0 n0 c0, .slice a1 n1 c1, .slice a2 n2 c2, .slice a3 n3 c3] 35) := by show Vb _ _ _ _; rw [← hW, ← hS]; exact (Vb.new _ _ _).push _
  have R : Hid (Vb W (s + 1) #[.int .i64 0, .slice none 0 0, .slice none 0 0, .slice none 0 0, .slice none 0 0, .slice none 0 0, .slice none 0 0, .int .i64 0, .int .i64 0, .int .i64 0] 40) := by show Vb _ _ _ _; rw [← hW, z1]; exact Vb.new _ _ _
  have ZW : Hid (s + 2 = W.heap.size) := by show _ = _; rw [← hW, ← hS]; simp
  clear z1
  have D : Hid (Pl W a0 n0 c0 a1 n1 c1 a2 n2 c2 a3 n3 c3 P) := h.stay B0.out
  have SMP : Hid (Small n0 n1 n2 n3 P) := sm
  have N0 : Hid (n0 = P.own.length) := h.own.len
  have NI : Hid (SwN W bi (some ⟨ga, 0, none⟩) il ic iss ∧ SwN W bj (some ⟨gb, 0, none⟩) jl jc jss) := ⟨hi.keep B0.out, hj.keep B0.out⟩
  have NM : Hid (Nums W bm (.slice ma ml mk) im ∧ Nums W bp (.slice pa pl pk) inp) := ⟨hm.keep B0.out, hp.keep B0.out⟩
  have IL : Hid (iss.length = il ∧ jss.length = jl ∧ il ≤ 1048576 ∧ jl ≤ 1048576) := ⟨hi.len.1, hj.len.1, hil, hjl⟩
  clear h hi hj sm hm hp hil hjl
  have q0 := Q.out.cell 0 rfl
  have q1 := Q.out.cell 1 rfl
  have q2 := Q.out.cell 2 rfl
  have q3 := Q.out.cell 3 rfl
  have PA : Hid (PolAt W s P) := ⟨_, _, _, _, _, _, _, _, _, _, _, _, q0, q1, q2, q3, D.out⟩
  go_enter Tryz.func6, Tryz.ntmps6
  go_wp2_with fail
  clear hW hS q0 q1 q2 q3
  refine (l6_asked s _ P _ PA.out).mono ?_
  rw [HV.out]
  rintro e w1 ⟨rfl, b1'⟩
  have B1 : Hid (Below w.heap.size w w1) := on B0.out b1'
  have E1 : Hid (Below W.heap.size W w1) := b1'
  have R1 : Hid (Vb w1 (s + 1) #[.int .i64 0, .slice none 0 0, .slice none 0 0, .slice none 0 0, .slice none 0 0, .slice none 0 0, .slice none 0 0, .int .i64 0, .int .i64 0, .int .i64 0] 40) := R.out.keep b1'
  have Q1 : Hid (Vb w1 s #[.slice a0 n0 c0, .slice a1 n1 c1, .slice a2 n2 c2, .slice a3 n3 c3] 35) := Q.out.keep b1'
  clear b1'
  have p0 := R1.out.cell 0 rfl
  have f0 := R1.out.free 0
  have p1 := R1.out.cell 1 rfl
  have f1 := R1.out.free 1
  have p2 := R1.out.cell 2 rfl
  have f2 := R1.out.free 2
  have p3 := R1.out.cell 3 rfl
  have f3 := R1.out.free 3
  have p4 := R1.out.cell 4 rfl
  have f4 := R1.out.free 4
  have p5 := R1.out.cell 5 rfl
  have f5 := R1.out.free 5
  have p6 := R1.out.cell 6 rfl
  have f6 := R1.out.free 6
  have p7 := R1.out.cell 7 rfl
  have f7 := R1.out.free 7
  have p8 := R1.out.cell 8 rfl
  have f8 := R1.out.free 8
  have p9 := R1.out.cell 9 rfl
  have f9 := R1.out.free 9
  have lt := R1.out.lt
  go_wp2_with fail
  clear lt p0 f0 p1 f1 p2 f2 p3 f3 p4 f4 p5 f5 p6 f6 p7 f7 p8 f8 p9 f9
  have NN : Hid (_ ∧ _) := ten R1.out (.int .i64 cx) (.slice none 0 0) (.slice none 0 0) (.slice none 0 0) (.slice none 0 0) (.slice none 0 0) (.slice none 0 0) (.int .i64 0) (.int .i64 0) (.int .i64 0)
  generalize ((((((((((w1.setCell ⟨s + 1, 0, none⟩ (.int .i64 cx)).setCell ⟨s + 1, 1, none⟩ (.slice none 0 0)).setCell ⟨s + 1, 2, none⟩ (.slice none 0 0)).setCell ⟨s + 1, 3, none⟩ (.slice none 0 0)).setCell ⟨s + 1, 4, none⟩ (.slice none 0 0)).setCell ⟨s + 1, 5, none⟩ (.slice none 0 0)).setCell ⟨s + 1, 6, none⟩ (.slice none 0 0)).setCell ⟨s + 1, 7, none⟩ (.int .i64 0)).setCell ⟨s + 1, 8, none⟩ (.int .i64 0)).setCell ⟨s + 1, 9, none⟩ (.int .i64 0)) = W9 at *
  have x0 := NN.out.1.cell 0 rfl
  have x1 := NN.out.1.cell 1 rfl
  have x2 := NN.out.1.cell 2 rfl
  have x3 := NN.out.1.cell 3 rfl
  have x4 := NN.out.1.cell 4 rfl
  have x5 := NN.out.1.cell 5 rfl
  have x6 := NN.out.1.cell 6 rfl
  have x7 := NN.out.1.cell 7 rfl
  have x8 := NN.out.1.cell 8 rfl
  have x9 := NN.out.1.cell 9 rfl
  exact bodyPost_ret (v := .agg #[.int .i64 cx, .slice none 0 0, .slice none 0 0, .slice none 0 0, .slice none 0 0, .slice none 0 0, .slice none 0 0, .int .i64 0, .int .i64 0, .int .i64 0]) (by simp [results, Tryz.results6, go_sem, x0, x1, x2, x3, x4, x5, x6, x7, x8, x9]) rfl ⟨_, _, _, _, _, _, rfl, (ow_void _ _).oq, Mq.under B1.out NN.out.2 fun k e => by have := HSs.out; omega⟩
set_option maxRecDepth 20000 in
set_option maxHeartbeats 8000000 in
theorem stw_many1 (a0 a1 a2 a3 : Option Addr) (n0 c0 n1 c1 n2 c2 n3 c3 : Nat) (P : Plc) (ga il ic : Nat) (iss : List (List Int)) (gb jl jc : Nat) (jss : List (List Int)) (gu : Int) (ma : Option Addr) (ml mk : Nat) (im : List Int) (pa : Option Addr) (pl pk : Nat) (inp : List Int) (bi bj bm bp : Nat) (w : World) (h : Pl w a0 n0 c0 a1 n1 c1 a2 n2 c2 a3 n3 c3 P) (sm : Small n0 n1 n2 n3 P) (hi : SwN w bi (some ⟨ga, 0, none⟩) il ic iss) (hj : SwN w bj (some ⟨gb, 0, none⟩) jl jc jss) (hm : Nums w bm (.slice ma ml mk) im) (hp : Nums w bp (.slice pa pl pk) inp) (hil : il ≤ 1048576) (hjl : jl ≤ 1048576) (h3 : 0 < n3 → ∃ g, a3 = some ⟨g, 0, none⟩) (hv : askV P gu = 0) (hl : iss.length ≠ P.own.length) :
    Calls Tryz.prog 6 #[.agg #[.slice a0 n0 c0, .slice a1 n1 c1, .slice a2 n2 c2, .slice a3 n3 c3], .slice (some ⟨ga, 0, none⟩) il ic, .slice (some ⟨gb, 0, none⟩) jl jc, .int .i64 gu, .slice ma ml mk, .slice pa pl pk] w fun e w' => ∃ v0 v1 v2 v3 v4 v5, e = .returned (.agg #[.int .i64 (twC P iss jss gu im inp), v0, v1, v2, v3, v4, v5, .int .i64 (twX P iss jss gu im inp).slot, .int .i64 (twX P iss jss gu im inp).left, .int .i64 (twX P iss jss gu im inp).clock]) ∧ Oq w' w.heap.size v0 v1 v2 v3 v4 v5 (twX P iss jss gu im inp) ∧ Below w.heap.size w w' := by
  have hk : twK P iss jss gu = 2 := by rw [twK, if_pos hv, if_neg (fun e => hl e.1)]
  have hx : twC P iss jss gu im inp = 2 := by rw [twC, if_neg (by rw [hk]; decide), hk]
  have hX : twX P iss jss gu im inp = voidX := by rw [twX, if_neg (by rw [hk]; decide)]
  rw [hx, hX]
  have HV : Hid (askV P gu = 0) := hv
  have HL : Hid (iss.length ≠ P.own.length) := hl
  clear hx hv hl hk hX
  generalize hW : (w.alloc (.cells #[.slice a0 n0 c0, .slice a1 n1 c1, .slice a2 n2 c2, .slice a3 n3 c3] 35)).alloc (.cells #[.int .i64 0, .slice none 0 0, .slice none 0 0, .slice none 0 0, .slice none 0 0, .slice none 0 0, .slice none 0 0, .int .i64 0, .int .i64 0, .int .i64 0] 40) = W
  have B0 : Hid (Below w.heap.size w W) := by show Below _ _ _; rw [← hW]; exact al (al (Below.refl _ _) _) _
  obtain ⟨s, hS⟩ : ∃ s, w.heap.size = s := ⟨_, rfl⟩
  have HSs : Hid (w.heap.size = s) := hS
  have z1 : s + 1 = (w.alloc (.cells #[.slice a0 n0 c0, .slice a1 n1 c1, .slice a2 n2 c2, .slice a3 n3 c3] 35)).heap.size := by rw [← hS]; simp
  have Q : Hid (Vb W s #[.slice a0 n0 c0, .slice a1 n1 c1, .slice a2 n2 c2, .slice a3 n3 c3] 35) := by show Vb _ _ _ _; rw [← hW, ← hS]; exact (Vb.new _ _ _).push _
  have R : Hid (Vb W (s + 1) #[.int .i64 0, .slice none 0 0, .slice none 0 0, .slice none 0 0, .slice none 0 0, .slice none 0 0, .slice none 0 0, .int .i64 0, .int .i64 0, .int .i64 0] 40) := by show Vb _ _ _ _; rw [← hW, z1]; exact Vb.new _ _ _
  have ZW : Hid (s + 2 = W.heap.size) := by show _ = _; rw [← hW, ← hS]; simp
  clear z1
  have D : Hid (Pl W a0 n0 c0 a1 n1 c1 a2 n2 c2 a3 n3 c3 P) := h.stay B0.out
  have SMP : Hid (Small n0 n1 n2 n3 P) := sm
  have N0 : Hid (n0 = P.own.length) := h.own.len
  have NI : Hid (SwN W bi (some ⟨ga, 0, none⟩) il ic iss ∧ SwN W bj (some ⟨gb, 0, none⟩) jl jc jss) := ⟨hi.keep B0.out, hj.keep B0.out⟩
  have NM : Hid (Nums W bm (.slice ma ml mk) im ∧ Nums W bp (.slice pa pl pk) inp) := ⟨hm.keep B0.out, hp.keep B0.out⟩
  have IL : Hid (iss.length = il ∧ jss.length = jl ∧ il ≤ 1048576 ∧ jl ≤ 1048576) := ⟨hi.len.1, hj.len.1, hil, hjl⟩
  clear h hi hj sm hm hp hil hjl
  have q0 := Q.out.cell 0 rfl
  have q1 := Q.out.cell 1 rfl
  have q2 := Q.out.cell 2 rfl
  have q3 := Q.out.cell 3 rfl
  have PA : Hid (PolAt W s P) := ⟨_, _, _, _, _, _, _, _, _, _, _, _, q0, q1, q2, q3, D.out⟩
  go_enter Tryz.func6, Tryz.ntmps6
  go_wp2_with fail
  clear hW hS q0 q1 q2 q3
  refine (l6_asked s _ P _ PA.out).mono ?_
  rw [HV.out]
  rintro e w1 ⟨rfl, b1'⟩
  have B1 : Hid (Below w.heap.size w w1) := on B0.out b1'
  have E1 : Hid (Below W.heap.size W w1) := b1'
  have R1 : Hid (Vb w1 (s + 1) #[.int .i64 0, .slice none 0 0, .slice none 0 0, .slice none 0 0, .slice none 0 0, .slice none 0 0, .slice none 0 0, .int .i64 0, .int .i64 0, .int .i64 0] 40) := R.out.keep b1'
  have Q1 : Hid (Vb w1 s #[.slice a0 n0 c0, .slice a1 n1 c1, .slice a2 n2 c2, .slice a3 n3 c3] 35) := Q.out.keep b1'
  clear b1'
  have hne : ¬ (il : Int) = (n0 : Int) := by have := HL.out; have := N0.out; have := IL.out.1; omega
  have hne2 : ¬ il = n0 := by omega
  have i1 : (il : Int) ≤ 9223372036854775807 := by have := IL.out.2.2.1; omega
  have i2 : (jl : Int) ≤ 9223372036854775807 := by have := IL.out.2.2.2; omega
  have i3 : (n0 : Int) ≤ 9223372036854775807 := by have := SMP.out.own; omega
  have q0 := Q1.out.cell 0 rfl
  have p0 := R1.out.cell 0 rfl
  have f0 := R1.out.free 0
  have p1 := R1.out.cell 1 rfl
  have f1 := R1.out.free 1
  have p2 := R1.out.cell 2 rfl
  have f2 := R1.out.free 2
  have p3 := R1.out.cell 3 rfl
  have f3 := R1.out.free 3
  have p4 := R1.out.cell 4 rfl
  have f4 := R1.out.free 4
  have p5 := R1.out.cell 5 rfl
  have f5 := R1.out.free 5
  have p6 := R1.out.cell 6 rfl
  have f6 := R1.out.free 6
  have p7 := R1.out.cell 7 rfl
  have f7 := R1.out.free 7
  have p8 := R1.out.cell 8 rfl
  have f8 := R1.out.free 8
  have p9 := R1.out.cell 9 rfl
  have f9 := R1.out.free 9
  have lt := R1.out.lt
  go_wp2_with fail
  clear lt p0 f0 p1 f1 p2 f2 p3 f3 p4 f4 p5 f5 p6 f6 p7 f7 p8 f8 p9 f9
  have NN : Hid (_ ∧ _) := ten R1.out (.int .i64 2) (.slice none 0 0) (.slice none 0 0) (.slice none 0 0) (.slice none 0 0) (.slice none 0 0) (.slice none 0 0) (.int .i64 0) (.int .i64 0) (.int .i64 0)
  generalize ((((((((((w1.setCell ⟨s + 1, 0, none⟩ (.int .i64 2)).setCell ⟨s + 1, 1, none⟩ (.slice none 0 0)).setCell ⟨s + 1, 2, none⟩ (.slice none 0 0)).setCell ⟨s + 1, 3, none⟩ (.slice none 0 0)).setCell ⟨s + 1, 4, none⟩ (.slice none 0 0)).setCell ⟨s + 1, 5, none⟩ (.slice none 0 0)).setCell ⟨s + 1, 6, none⟩ (.slice none 0 0)).setCell ⟨s + 1, 7, none⟩ (.int .i64 0)).setCell ⟨s + 1, 8, none⟩ (.int .i64 0)).setCell ⟨s + 1, 9, none⟩ (.int .i64 0)) = W9 at *
  have x0 := NN.out.1.cell 0 rfl
  have x1 := NN.out.1.cell 1 rfl
  have x2 := NN.out.1.cell 2 rfl
  have x3 := NN.out.1.cell 3 rfl
  have x4 := NN.out.1.cell 4 rfl
  have x5 := NN.out.1.cell 5 rfl
  have x6 := NN.out.1.cell 6 rfl
  have x7 := NN.out.1.cell 7 rfl
  have x8 := NN.out.1.cell 8 rfl
  have x9 := NN.out.1.cell 9 rfl
  exact bodyPost_ret (v := .agg #[.int .i64 2, .slice none 0 0, .slice none 0 0, .slice none 0 0, .slice none 0 0, .slice none 0 0, .slice none 0 0, .int .i64 0, .int .i64 0, .int .i64 0]) (by simp [results, Tryz.results6, go_sem, x0, x1, x2, x3, x4, x5, x6, x7, x8, x9]) rfl ⟨_, _, _, _, _, _, rfl, (ow_void _ _).oq, Mq.under B1.out NN.out.2 fun k e => by have := HSs.out; omega⟩
set_option maxRecDepth 20000 in
set_option maxHeartbeats 8000000 in
theorem stw_many2 (a0 a1 a2 a3 : Option Addr) (n0 c0 n1 c1 n2 c2 n3 c3 : Nat) (P : Plc) (ga il ic : Nat) (iss : List (List Int)) (gb jl jc : Nat) (jss : List (List Int)) (gu : Int) (ma : Option Addr) (ml mk : Nat) (im : List Int) (pa : Option Addr) (pl pk : Nat) (inp : List Int) (bi bj bm bp : Nat) (w : World) (h : Pl w a0 n0 c0 a1 n1 c1 a2 n2 c2 a3 n3 c3 P) (sm : Small n0 n1 n2 n3 P) (hi : SwN w bi (some ⟨ga, 0, none⟩) il ic iss) (hj : SwN w bj (some ⟨gb, 0, none⟩) jl jc jss) (hm : Nums w bm (.slice ma ml mk) im) (hp : Nums w bp (.slice pa pl pk) inp) (hil : il ≤ 1048576) (hjl : jl ≤ 1048576) (h3 : 0 < n3 → ∃ g, a3 = some ⟨g, 0, none⟩) (hv : askV P gu = 0) (hl : iss.length = P.own.length ∧ jss.length ≠ P.own.length) :
    Calls Tryz.prog 6 #[.agg #[.slice a0 n0 c0, .slice a1 n1 c1, .slice a2 n2 c2, .slice a3 n3 c3], .slice (some ⟨ga, 0, none⟩) il ic, .slice (some ⟨gb, 0, none⟩) jl jc, .int .i64 gu, .slice ma ml mk, .slice pa pl pk] w fun e w' => ∃ v0 v1 v2 v3 v4 v5, e = .returned (.agg #[.int .i64 (twC P iss jss gu im inp), v0, v1, v2, v3, v4, v5, .int .i64 (twX P iss jss gu im inp).slot, .int .i64 (twX P iss jss gu im inp).left, .int .i64 (twX P iss jss gu im inp).clock]) ∧ Oq w' w.heap.size v0 v1 v2 v3 v4 v5 (twX P iss jss gu im inp) ∧ Below w.heap.size w w' := by
  have hk : twK P iss jss gu = 2 := by rw [twK, if_pos hv, if_neg (fun e => hl.2 e.2)]
  have hx : twC P iss jss gu im inp = 2 := by rw [twC, if_neg (by rw [hk]; decide), hk]
  have hX : twX P iss jss gu im inp = voidX := by rw [twX, if_neg (by rw [hk]; decide)]
  rw [hx, hX]
  have HV : Hid (askV P gu = 0) := hv
  have HL : Hid (iss.length = P.own.length ∧ jss.length ≠ P.own.length) := hl
  clear hx hv hl hk hX
  generalize hW : (w.alloc (.cells #[.slice a0 n0 c0, .slice a1 n1 c1, .slice a2 n2 c2, .slice a3 n3 c3] 35)).alloc (.cells #[.int .i64 0, .slice none 0 0, .slice none 0 0, .slice none 0 0, .slice none 0 0, .slice none 0 0, .slice none 0 0, .int .i64 0, .int .i64 0, .int .i64 0] 40) = W
  have B0 : Hid (Below w.heap.size w W) := by show Below _ _ _; rw [← hW]; exact al (al (Below.refl _ _) _) _
  obtain ⟨s, hS⟩ : ∃ s, w.heap.size = s := ⟨_, rfl⟩
  have HSs : Hid (w.heap.size = s) := hS
  have z1 : s + 1 = (w.alloc (.cells #[.slice a0 n0 c0, .slice a1 n1 c1, .slice a2 n2 c2, .slice a3 n3 c3] 35)).heap.size := by rw [← hS]; simp
  have Q : Hid (Vb W s #[.slice a0 n0 c0, .slice a1 n1 c1, .slice a2 n2 c2, .slice a3 n3 c3] 35) := by show Vb _ _ _ _; rw [← hW, ← hS]; exact (Vb.new _ _ _).push _
  have R : Hid (Vb W (s + 1) #[.int .i64 0, .slice none 0 0, .slice none 0 0, .slice none 0 0, .slice none 0 0, .slice none 0 0, .slice none 0 0, .int .i64 0, .int .i64 0, .int .i64 0] 40) := by show Vb _ _ _ _; rw [← hW, z1]; exact Vb.new _ _ _
  have ZW : Hid (s + 2 = W.heap.size) := by show _ = _; rw [← hW, ← hS]; simp
  clear z1
  have D : Hid (Pl W a0 n0 c0 a1 n1 c1 a2 n2 c2 a3 n3 c3 P) := h.stay B0.out
  have SMP : Hid (Small n0 n1 n2 n3 P) := sm
  have N0 : Hid (n0 = P.own.length) := h.own.len
  have NI : Hid (SwN W bi (some ⟨ga, 0, none⟩) il ic iss ∧ SwN W bj (some ⟨gb, 0, none⟩) jl jc jss) := ⟨hi.keep B0.out, hj.keep B0.out⟩
  have NM : Hid (Nums W bm (.slice ma ml mk) im ∧ Nums W bp (.slice pa pl pk) inp) := ⟨hm.keep B0.out, hp.keep B0.out⟩
  have IL : Hid (iss.length = il ∧ jss.length = jl ∧ il ≤ 1048576 ∧ jl ≤ 1048576) := ⟨hi.len.1, hj.len.1, hil, hjl⟩
  clear h hi hj sm hm hp hil hjl
  have q0 := Q.out.cell 0 rfl
  have q1 := Q.out.cell 1 rfl
  have q2 := Q.out.cell 2 rfl
  have q3 := Q.out.cell 3 rfl
  have PA : Hid (PolAt W s P) := ⟨_, _, _, _, _, _, _, _, _, _, _, _, q0, q1, q2, q3, D.out⟩
  go_enter Tryz.func6, Tryz.ntmps6
  go_wp2_with fail
  clear hW hS q0 q1 q2 q3
  refine (l6_asked s _ P _ PA.out).mono ?_
  rw [HV.out]
  rintro e w1 ⟨rfl, b1'⟩
  have B1 : Hid (Below w.heap.size w w1) := on B0.out b1'
  have E1 : Hid (Below W.heap.size W w1) := b1'
  have R1 : Hid (Vb w1 (s + 1) #[.int .i64 0, .slice none 0 0, .slice none 0 0, .slice none 0 0, .slice none 0 0, .slice none 0 0, .slice none 0 0, .int .i64 0, .int .i64 0, .int .i64 0] 40) := R.out.keep b1'
  have Q1 : Hid (Vb w1 s #[.slice a0 n0 c0, .slice a1 n1 c1, .slice a2 n2 c2, .slice a3 n3 c3] 35) := Q.out.keep b1'
  clear b1'
  have hne : (il : Int) = (n0 : Int) := by have := HL.out.1; have := N0.out; have := IL.out.1; omega
  have hne2 : il = n0 := by omega
  have hnf : ¬ (jl : Int) = (n0 : Int) := by have := HL.out.2; have := N0.out; have := IL.out.2.1; omega
  have hnf2 : ¬ jl = n0 := by omega
  have i1 : (il : Int) ≤ 9223372036854775807 := by have := IL.out.2.2.1; omega
  have i2 : (jl : Int) ≤ 9223372036854775807 := by have := IL.out.2.2.2; omega
  have i3 : (n0 : Int) ≤ 9223372036854775807 := by have := SMP.out.own; omega
  have q0 := Q1.out.cell 0 rfl
  have p0 := R1.out.cell 0 rfl
  have f0 := R1.out.free 0
  have p1 := R1.out.cell 1 rfl
  have f1 := R1.out.free 1
  have p2 := R1.out.cell 2 rfl
  have f2 := R1.out.free 2
  have p3 := R1.out.cell 3 rfl
  have f3 := R1.out.free 3
  have p4 := R1.out.cell 4 rfl
  have f4 := R1.out.free 4
  have p5 := R1.out.cell 5 rfl
  have f5 := R1.out.free 5
  have p6 := R1.out.cell 6 rfl
  have f6 := R1.out.free 6
  have p7 := R1.out.cell 7 rfl
  have f7 := R1.out.free 7
  have p8 := R1.out.cell 8 rfl
  have f8 := R1.out.free 8
  have p9 := R1.out.cell 9 rfl
  have f9 := R1.out.free 9
  have lt := R1.out.lt
  go_wp2_with fail
  clear lt p0 f0 p1 f1 p2 f2 p3 f3 p4 f4 p5 f5 p6 f6 p7 f7 p8 f8 p9 f9
  have NN : Hid (_ ∧ _) := ten R1.out (.int .i64 2) (.slice none 0 0) (.slice none 0 0) (.slice none 0 0) (.slice none 0 0) (.slice none 0 0) (.slice none 0 0) (.int .i64 0) (.int .i64 0) (.int .i64 0)
  generalize ((((((((((w1.setCell ⟨s + 1, 0, none⟩ (.int .i64 2)).setCell ⟨s + 1, 1, none⟩ (.slice none 0 0)).setCell ⟨s + 1, 2, none⟩ (.slice none 0 0)).setCell ⟨s + 1, 3, none⟩ (.slice none 0 0)).setCell ⟨s + 1, 4, none⟩ (.slice none 0 0)).setCell ⟨s + 1, 5, none⟩ (.slice none 0 0)).setCell ⟨s + 1, 6, none⟩ (.slice none 0 0)).setCell ⟨s + 1, 7, none⟩ (.int .i64 0)).setCell ⟨s + 1, 8, none⟩ (.int .i64 0)).setCell ⟨s + 1, 9, none⟩ (.int .i64 0)) = W9 at *
  have x0 := NN.out.1.cell 0 rfl
  have x1 := NN.out.1.cell 1 rfl
  have x2 := NN.out.1.cell 2 rfl
  have x3 := NN.out.1.cell 3 rfl
  have x4 := NN.out.1.cell 4 rfl
  have x5 := NN.out.1.cell 5 rfl
  have x6 := NN.out.1.cell 6 rfl
  have x7 := NN.out.1.cell 7 rfl
  have x8 := NN.out.1.cell 8 rfl
  have x9 := NN.out.1.cell 9 rfl
  exact bodyPost_ret (v := .agg #[.int .i64 2, .slice none 0 0, .slice none 0 0, .slice none 0 0, .slice none 0 0, .slice none 0 0, .slice none 0 0, .int .i64 0, .int .i64 0, .int .i64 0]) (by simp [results, Tryz.results6, go_sem, x0, x1, x2, x3, x4, x5, x6, x7, x8, x9]) rfl ⟨_, _, _, _, _, _, rfl, (ow_void _ _).oq, Mq.under B1.out NN.out.2 fun k e => by have := HSs.out; omega⟩
set_option maxRecDepth 20000 in
set_option maxHeartbeats 8000000 in
theorem stw_good (a0 a1 a2 a3 : Option Addr) (n0 c0 n1 c1 n2 c2 n3 c3 : Nat) (P : Plc) (ga il ic : Nat) (iss : List (List Int)) (gb jl jc : Nat) (jss : List (List Int)) (g : Nat) (ma : Option Addr) (ml mk : Nat) (im : List Int) (pa : Option Addr) (pl pk : Nat) (inp : List Int) (bi bj bm bp : Nat) (w : World) (h : Pl w a0 n0 c0 a1 n1 c1 a2 n2 c2 a3 n3 c3 P) (sm : Small n0 n1 n2 n3 P) (hi : SwN w bi (some ⟨ga, 0, none⟩) il ic iss) (hj : SwN w bj (some ⟨gb, 0, none⟩) jl jc jss) (hm : Nums w bm (.slice ma ml mk) im) (hp : Nums w bp (.slice pa pl pk) inp) (hil : il ≤ 1048576) (hjl : jl ≤ 1048576) (h3 : 0 < n3 → ∃ g, a3 = some ⟨g, 0, none⟩) (hv : askV P (g : Int) = 0) (hl : iss.length = P.own.length ∧ jss.length = P.own.length) :
    Calls Tryz.prog 6 #[.agg #[.slice a0 n0 c0, .slice a1 n1 c1, .slice a2 n2 c2, .slice a3 n3 c3], .slice (some ⟨ga, 0, none⟩) il ic, .slice (some ⟨gb, 0, none⟩) jl jc, .int .i64 (g : Int), .slice ma ml mk, .slice pa pl pk] w fun e w' => ∃ v0 v1 v2 v3 v4 v5, e = .returned (.agg #[.int .i64 (twC P iss jss (g : Int) im inp), v0, v1, v2, v3, v4, v5, .int .i64 (twX P iss jss (g : Int) im inp).slot, .int .i64 (twX P iss jss (g : Int) im inp).left, .int .i64 (twX P iss jss (g : Int) im inp).clock]) ∧ Oq w' w.heap.size v0 v1 v2 v3 v4 v5 (twX P iss jss (g : Int) im inp) ∧ Below w.heap.size w w' := by
  have hk : twK P iss jss (g : Int) = 0 := by rw [twK, if_pos hv, if_pos hl]
  have hx : twC P iss jss (g : Int) im inp = bhC P (iss.set g im) (jss.set g inp) := by rw [twC, if_pos hk, Int.toNat_natCast]
  have hX : twX P iss jss (g : Int) im inp = bhX P (iss.set g im) (jss.set g inp) := by rw [twX, if_pos hk, Int.toNat_natCast]
  rw [hx, hX]
  obtain ⟨BC, hBC⟩ : ∃ c, bhC P (iss.set g im) (jss.set g inp) = c := ⟨_, rfl⟩
  obtain ⟨BX, hBX⟩ : ∃ c, bhX P (iss.set g im) (jss.set g inp) = c := ⟨_, rfl⟩
  have HBX : Hid (bhC P (iss.set g im) (jss.set g inp) = BC ∧ bhX P (iss.set g im) (jss.set g inp) = BX) := ⟨hBC, hBX⟩
  rw [hBC, hBX]
  have HV : Hid (askV P (g : Int) = 0) := hv
  have HL : Hid (iss.length = P.own.length ∧ jss.length = P.own.length) := hl
  have GL : Hid (g < P.own.length) := by obtain ⟨_, g', e, h'⟩ := tw_ask hv; show g < _; omega
  have H3 : Hid (0 < n3 → ∃ g, a3 = some ⟨g, 0, none⟩) := h3
  clear hx hv hl hk hX hBC hBX h3
  generalize hW : (w.alloc (.cells #[.slice a0 n0 c0, .slice a1 n1 c1, .slice a2 n2 c2, .slice a3 n3 c3] 35)).alloc (.cells #[.int .i64 0, .slice none 0 0, .slice none 0 0, .slice none 0 0, .slice none 0 0, .slice none 0 0, .slice none 0 0, .int .i64 0, .int .i64 0, .int .i64 0] 40) = W
  have B0 : Hid (Below w.heap.size w W) := by show Below _ _ _; rw [← hW]; exact al (al (Below.refl _ _) _) _
  obtain ⟨s, hS⟩ : ∃ s, w.heap.size = s := ⟨_, rfl⟩
  have HSs : Hid (w.heap.size = s) := hS
  have z1 : s + 1 = (w.alloc (.cells #[.slice a0 n0 c0, .slice a1 n1 c1, .slice a2 n2 c2, .slice a3 n3 c3] 35)).heap.size := by rw [← hS]; simp
  have Q : Hid (Vb W s #[.slice a0 n0 c0, .slice a1 n1 c1, .slice a2 n2 c2, .slice a3 n3 c3] 35) := by show Vb _ _ _ _; rw [← hW, ← hS]; exact (Vb.new _ _ _).push _
  have R : Hid (Vb W (s + 1) #[.int .i64 0, .slice none 0 0, .slice none 0 0, .slice none 0 0, .slice none 0 0, .slice none 0 0, .slice none 0 0, .int .i64 0, .int .i64 0, .int .i64 0] 40) := by show Vb _ _ _ _; rw [← hW, z1]; exact Vb.new _ _ _
  have ZW : Hid (s + 2 = W.heap.size) := by show _ = _; rw [← hW, ← hS]; simp
  clear z1
  have D : Hid (Pl W a0 n0 c0 a1 n1 c1 a2 n2 c2 a3 n3 c3 P) := h.stay B0.out
  have SMP : Hid (Small n0 n1 n2 n3 P) := sm
  have N0 : Hid (n0 = P.own.length) := h.own.len
  have NI : Hid (SwN W bi (some ⟨ga, 0, none⟩) il ic iss ∧ SwN W bj (some ⟨gb, 0, none⟩) jl jc jss) := ⟨hi.keep B0.out, hj.keep B0.out⟩
  have NM : Hid (Nums W bm (.slice ma ml mk) im ∧ Nums W bp (.slice pa pl pk) inp) := ⟨hm.keep B0.out, hp.keep B0.out⟩
  have IL : Hid (iss.length = il ∧ jss.length = jl ∧ il ≤ 1048576 ∧ jl ≤ 1048576) := ⟨hi.len.1, hj.len.1, hil, hjl⟩
  clear h hi hj sm hm hp hil hjl
  have q0 := Q.out.cell 0 rfl
  have q1 := Q.out.cell 1 rfl
  have q2 := Q.out.cell 2 rfl
  have q3 := Q.out.cell 3 rfl
  have PA : Hid (PolAt W s P) := ⟨_, _, _, _, _, _, _, _, _, _, _, _, q0, q1, q2, q3, D.out⟩
  go_enter Tryz.func6, Tryz.ntmps6
  go_wp2_with fail
  clear hW hS q0 q1 q2 q3
  refine (l6_asked s _ P _ PA.out).mono ?_
  rw [HV.out]
  rintro e w1 ⟨rfl, b1'⟩
  have B1 : Hid (Below w.heap.size w w1) := on B0.out b1'
  have E1 : Hid (Below W.heap.size W w1) := b1'
  have R1 : Hid (Vb w1 (s + 1) #[.int .i64 0, .slice none 0 0, .slice none 0 0, .slice none 0 0, .slice none 0 0, .slice none 0 0, .slice none 0 0, .int .i64 0, .int .i64 0, .int .i64 0] 40) := R.out.keep b1'
  have Q1 : Hid (Vb w1 s #[.slice a0 n0 c0, .slice a1 n1 c1, .slice a2 n2 c2, .slice a3 n3 c3] 35) := Q.out.keep b1'
  clear b1'
  have hne : (il : Int) = (n0 : Int) := by have := HL.out.1; have := N0.out; have := IL.out.1; omega
  have hne2 : il = n0 := by omega
  have hnf : (jl : Int) = (n0 : Int) := by have := HL.out.2; have := N0.out; have := IL.out.2.1; omega
  have hnf2 : jl = n0 := by omega
  subst hne2
  subst hnf2
  clear hne hnf
  have i1 : (jl : Int) ≤ 9223372036854775807 := by have := IL.out.2.2.1; omega
  have gI : (g : Int) < (jl : Int) := by have := GL.out; have := N0.out; omega
  have GN : Hid (g < jl ∧ jl ≤ 1048576) := ⟨by omega, IL.out.2.2.1⟩
  obtain ⟨xs, xl, hx⟩ := (NI.out.1.keep E1.out).mono0.vals
  obtain ⟨ys, yl, hy⟩ := (NI.out.2.keep E1.out).mono0.vals
  have HX : Hid (xs.length = jl ∧ ∀ (i : Nat) (x : Value), xs[i]? = some x → w1.cell? ⟨ga, i, none⟩ = some x ∧ x.oneCell' = true ∧ (∃ a l k, x = .slice a l k) ∧ Nums w1 0 x (iss.getD i [])) := ⟨xl, hx⟩
  have HY : Hid (ys.length = jl ∧ ∀ (i : Nat) (x : Value), ys[i]? = some x → w1.cell? ⟨gb, i, none⟩ = some x ∧ x.oneCell' = true ∧ (∃ a l k, x = .slice a l k) ∧ Nums w1 0 x (jss.getD i [])) := ⟨yl, hy⟩
  clear xl hx yl hy
  have q0 := Q1.out.cell 0 rfl
  go_upto_region 6 with fail
  clear q0
  go_upto_region 7 with (at_builtin; refine wp_appSS _ rfl _ _ rfl w1.heap.size _ rfl (World.ownsRow_lit w1 #[] 0 (Nat.le_refl _) (by decide) rfl) ga jl ic xs rfl (fun j u hj => ⟨cell_keep (al (Below.refl _ _) _) (HX.out.2 j u hj).1, (HX.out.2 j u hj).2.1⟩) HX.out.1 (by have := GN.out.2; omega) (by simp) ?_; intro la lk u1 hN1 hG1)
  have C1 : Hid (Below w1.heap.size w1 u1) := (al (Below.refl _ _) _ : Below w1.heap.size w1 (w1.alloc (.cells #[] 28))).grown hG1 (by simp) (fun k e => by simp at e; omega)
  obtain ⟨ra, hra⟩ : ∃ ra, la = some ⟨ra, 0, none⟩ := by
    obtain ⟨_, ⟨_, h2⟩ | ⟨g', _, _, e, _⟩⟩ := hN1
    · have := GN.out; omega
    · simp at e; exact ⟨g', e.1⟩
  subst hra
  have HR1 : Hid (u1.ownsRow w1.heap.size 28 1 (.slice (some ⟨ra, 0, none⟩) jl lk) jl xs) := hN1
  clear hN1 hG1
  go_upto_region 8 with (at_builtin; refine wp_appSS _ rfl _ _ rfl u1.heap.size _ rfl (World.ownsRow_lit u1 #[] 0 (Nat.le_refl _) (by decide) rfl) gb jl jc ys rfl (fun j u hj => ⟨cell_keep (al (Below.refl _ _) _) (cell_keep C1.out (HY.out.2 j u hj).1), (HY.out.2 j u hj).2.1⟩) HY.out.1 (by have := GN.out.2; omega) (by simp) ?_; intro lb lj u2 hN2 hG2)
  have C2 : Hid (Below u1.heap.size u1 u2) := (al (Below.refl _ _) _ : Below u1.heap.size u1 (u1.alloc (.cells #[] 28))).grown hG2 (by simp) (fun k e => by simp at e; omega)
  obtain ⟨rb, hrb⟩ : ∃ rb, lb = some ⟨rb, 0, none⟩ := by
    obtain ⟨_, ⟨_, h2⟩ | ⟨g', _, _, e, _⟩⟩ := hN2
    · have := GN.out; omega
    · simp at e; exact ⟨g', e.1⟩
  subst hrb
  have HR2 : Hid (u2.ownsRow u1.heap.size 28 1 (.slice (some ⟨rb, 0, none⟩) jl lj) jl ys) := hN2
  have HR1' : Hid (u2.ownsRow w1.heap.size 28 1 (.slice (some ⟨ra, 0, none⟩) jl lk) jl xs) := row_keepX HR1.out C2.out
  have RAB : Hid (w1.heap.size ≤ ra ∧ ra < u1.heap.size ∧ u1.heap.size ≤ rb) := ⟨(World.ownsRow.lt HR1.out ra rfl).1, (World.ownsRow.lt HR1.out ra rfl).2, (World.ownsRow.lt HR2.out rb rfl).1⟩
  clear hN2 hG2
  have E2 : Hid (Below w1.heap.size w1 u2) := on C1.out C2.out
  obtain ⟨st1, gr1⟩ := World.ownsRow.stored HR1'.out g (.slice ma ml mk)
  have KP1 : Hid (∀ (x : Value) (zs : List Int), Nums u2 0 x zs → Nums (u2.setCell ⟨ra, g, none⟩ (.slice ma ml mk)) 0 x zs) := fun x zs hx => World.ownsRow.kept hx gr1 (row_typesX hx HR1'.out (by decide))
  have SA1 : Hid (SwN (u2.setCell ⟨ra, g, none⟩ (.slice ma ml mk)) 0 (some ⟨ra, 0, none⟩) jl lk (iss.set g im)) := swn_set (w := u2) (b := w1.heap.size) (xs := xs) (fun i x e => ⟨(HX.out.2 i x e).2.2.1, (HX.out.2 i x e).2.2.2.keep E2.out⟩) (by have := HX.out.1; have := IL.out.1; omega) st1 HX.out.1.symm GN.out.1 ⟨_, _, _, rfl⟩ (KP1.out _ _ (((NM.out.1.keep E1.out).keep E2.out).mono (Nat.zero_le _))) KP1.out
  have HR3 : Hid ((u2.setCell ⟨ra, g, none⟩ (.slice ma ml mk)).ownsRow u1.heap.size 28 1 (.slice (some ⟨rb, 0, none⟩) jl lj) jl ys) := World.ownsRow.kept HR2.out gr1 (.inr (by intro e; have e : rb = ra := (by simpa [Value.ownBlock] using e); have := RAB.out; omega))
  obtain ⟨st2, gr2⟩ := World.ownsRow.stored HR3.out g (.slice pa pl pk)
  have KP2 : Hid (∀ (x : Value) (zs : List Int), Nums (u2.setCell ⟨ra, g, none⟩ (.slice ma ml mk)) 0 x zs → Nums ((u2.setCell ⟨ra, g, none⟩ (.slice ma ml mk)).setCell ⟨rb, g, none⟩ (.slice pa pl pk)) 0 x zs) := fun x zs hx => World.ownsRow.kept hx gr2 (row_typesX hx HR3.out (by decide))
  have SB2 : Hid (SwN ((u2.setCell ⟨ra, g, none⟩ (.slice ma ml mk)).setCell ⟨rb, g, none⟩ (.slice pa pl pk)) 0 (some ⟨rb, 0, none⟩) jl lj (jss.set g inp)) := swn_set (w := (u2.setCell ⟨ra, g, none⟩ (.slice ma ml mk))) (b := u1.heap.size) (xs := ys) (fun i x e => ⟨(HY.out.2 i x e).2.2.1, KP1.out _ _ ((HY.out.2 i x e).2.2.2.keep E2.out)⟩) (by have := HY.out.1; have := IL.out.2.1; omega) st2 HY.out.1.symm GN.out.1 ⟨_, _, _, rfl⟩ (KP2.out _ _ (KP1.out _ _ (((NM.out.2.keep E1.out).keep E2.out).mono (Nat.zero_le _)))) KP2.out
  have SA2 : Hid (SwN ((u2.setCell ⟨ra, g, none⟩ (.slice ma ml mk)).setCell ⟨rb, g, none⟩ (.slice pa pl pk)) 0 (some ⟨ra, 0, none⟩) jl lk (iss.set g im)) := swn_put SA1.out (by have := RAB.out; show ra ≠ rb; omega) KP2.out
  have BU : Hid (Below w1.heap.size w1 ((u2.setCell ⟨ra, g, none⟩ (.slice ma ml mk)).setCell ⟨rb, g, none⟩ (.slice pa pl pk))) := (E2.out.setCell (by show w1.heap.size ≤ ra; exact RAB.out.1) _).setCell (by have := RAB.out; show w1.heap.size ≤ rb; omega) _
  clear st1 gr1 st2 gr2
  obtain ⟨x0, hx0⟩ : ∃ x, xs[g]? = some x := ⟨xs[g]'(by have := HX.out.1; have := GN.out.1; omega), List.getElem?_eq_getElem _⟩
  obtain ⟨y0, hy0⟩ : ∃ x, ys[g]? = some x := ⟨ys[g]'(by have := HY.out.1; have := GN.out.1; omega), List.getElem?_eq_getElem _⟩
  have cca := World.ownsRow.cellAt HR1'.out g (by have := GN.out.1; omega)
  rw [hx0] at cca
  obtain ⟨xa, xl, xk, ex⟩ := (HX.out.2 g x0 hx0).2.2.1
  rw [ex] at cca
  have cfa := World.ownsRow.frozenAt HR1'.out g
  have cla := block_of_cell cca
  have ccb := World.ownsRow.cellAt HR3.out g (by have := GN.out.1; omega)
  rw [hy0] at ccb
  obtain ⟨ya, yl, yk, ey⟩ := (HY.out.2 g y0 hy0).2.2.1
  rw [ey] at ccb
  have cfb := World.ownsRow.frozenAt HR3.out g
  have clb := block_of_cell ccb
  clear ex ey hx0 hy0
  have QU : Hid (Vb ((u2.setCell ⟨ra, g, none⟩ (.slice ma ml mk)).setCell ⟨rb, g, none⟩ (.slice pa pl pk)) s #[.slice a0 jl c0, .slice a1 n1 c1, .slice a2 n2 c2, .slice a3 n3 c3] 35) := Q1.out.keep BU.out
  have RU : Hid (Vb ((u2.setCell ⟨ra, g, none⟩ (.slice ma ml mk)).setCell ⟨rb, g, none⟩ (.slice pa pl pk)) (s + 1) #[.int .i64 0, .slice none 0 0, .slice none 0 0, .slice none 0 0, .slice none 0 0, .slice none 0 0, .slice none 0 0, .int .i64 0, .int .i64 0, .int .i64 0] 40) := R1.out.keep BU.out
  have t0 := QU.out.cell 0 rfl
  have t1 := QU.out.cell 1 rfl
  have t2 := QU.out.cell 2 rfl
  have t3 := QU.out.cell 3 rfl
  go_wp2_with fail
  clear cca cfa cla ccb cfb clb t0 t1 t2 t3
  generalize ((u2.setCell ⟨ra, g, none⟩ (.slice ma ml mk)).setCell ⟨rb, g, none⟩ (.slice pa pl pk)) = U at *
  have CALL := s_bootHostO _ _ _ _ _ _ _ _ _ _ _ _ P _ _ _ (iss.set g im) _ _ _ (jss.set g inp) 0 U ((D.out.stay E1.out).stay BU.out) SMP.out SA2.out.read SB2.out H3.out
  rw [HBX.out.1, HBX.out.2] at CALL
  refine CALL.mono ?_
  clear CALL
  rintro e u3 ⟨_, _, _, _, _, _, rfl, ow, b3⟩
  obtain ⟨v0, v1, v2, v3, v4, v5, k0, k1, k2, k3, k4, k5, m0, m1, m2, m3, m4, m5, e0, e1, e2, e3, e4, e5⟩ := oq_shapes ow
  subst e0 e1 e2 e3 e4 e5
  have OW : Hid (Oq u3 U.heap.size (.slice v0 m0 k0) (.slice v1 m1 k1) (.slice v2 m2 k2) (.slice v3 m3 k3) (.slice v4 m4 k4) (.slice v5 m5 k5) BX) := ow
  have R3 : Hid (Vb u3 (s + 1) #[.int .i64 0, .slice none 0 0, .slice none 0 0, .slice none 0 0, .slice none 0 0, .slice none 0 0, .slice none 0 0, .int .i64 0, .int .i64 0, .int .i64 0] 40) := RU.out.keep b3
  have B3 : Hid (Below w.heap.size w u3) := on (on B1.out BU.out) b3
  have Z3 : Hid (s + 2 ≤ U.heap.size) := by have := ZW.out; have := E1.out.size; have := BU.out.size; show _ ≤ _; omega
  obtain ⟨sl, hsl⟩ : ∃ z, BX.slot = z := ⟨_, rfl⟩
  obtain ⟨le, hle⟩ : ∃ z, BX.left = z := ⟨_, rfl⟩
  obtain ⟨cl, hcl⟩ : ∃ z, BX.clock = z := ⟨_, rfl⟩
  have HSL : Hid (BX.slot = sl ∧ BX.left = le ∧ BX.clock = cl) := ⟨hsl, hle, hcl⟩
  rw [hsl, hle, hcl]
  clear ow b3 hsl hle hcl
  have p0 := R3.out.cell 0 rfl
  have f0 := R3.out.free 0
  have p1 := R3.out.cell 1 rfl
  have f1 := R3.out.free 1
  have p2 := R3.out.cell 2 rfl
  have f2 := R3.out.free 2
  have p3 := R3.out.cell 3 rfl
  have f3 := R3.out.free 3
  have p4 := R3.out.cell 4 rfl
  have f4 := R3.out.free 4
  have p5 := R3.out.cell 5 rfl
  have f5 := R3.out.free 5
  have p6 := R3.out.cell 6 rfl
  have f6 := R3.out.free 6
  have p7 := R3.out.cell 7 rfl
  have f7 := R3.out.free 7
  have p8 := R3.out.cell 8 rfl
  have f8 := R3.out.free 8
  have p9 := R3.out.cell 9 rfl
  have f9 := R3.out.free 9
  have lt := R3.out.lt
  go_wp2_with fail
  clear lt p0 f0 p1 f1 p2 f2 p3 f3 p4 f4 p5 f5 p6 f6 p7 f7 p8 f8 p9 f9
  have NN : Hid (_ ∧ _) := ten R3.out (.int .i64 BC) (.slice v0 m0 k0) (.slice v1 m1 k1) (.slice v2 m2 k2) (.slice v3 m3 k3) (.slice v4 m4 k4) (.slice v5 m5 k5) (.int .i64 sl) (.int .i64 le) (.int .i64 cl)
  have O9 : Hid (Ho (s + 2) u3 ((((((((((u3.setCell ⟨s + 1, 0, none⟩ (.int .i64 BC)).setCell ⟨s + 1, 1, none⟩ (.slice v0 m0 k0)).setCell ⟨s + 1, 2, none⟩ (.slice v1 m1 k1)).setCell ⟨s + 1, 3, none⟩ (.slice v2 m2 k2)).setCell ⟨s + 1, 4, none⟩ (.slice v3 m3 k3)).setCell ⟨s + 1, 5, none⟩ (.slice v4 m4 k4)).setCell ⟨s + 1, 6, none⟩ (.slice v5 m5 k5)).setCell ⟨s + 1, 7, none⟩ (.int .i64 sl)).setCell ⟨s + 1, 8, none⟩ (.int .i64 le)).setCell ⟨s + 1, 9, none⟩ (.int .i64 cl))) := NN.out.2.ho fun k e => by omega
  generalize ((((((((((u3.setCell ⟨s + 1, 0, none⟩ (.int .i64 BC)).setCell ⟨s + 1, 1, none⟩ (.slice v0 m0 k0)).setCell ⟨s + 1, 2, none⟩ (.slice v1 m1 k1)).setCell ⟨s + 1, 3, none⟩ (.slice v2 m2 k2)).setCell ⟨s + 1, 4, none⟩ (.slice v3 m3 k3)).setCell ⟨s + 1, 5, none⟩ (.slice v4 m4 k4)).setCell ⟨s + 1, 6, none⟩ (.slice v5 m5 k5)).setCell ⟨s + 1, 7, none⟩ (.int .i64 sl)).setCell ⟨s + 1, 8, none⟩ (.int .i64 le)).setCell ⟨s + 1, 9, none⟩ (.int .i64 cl)) = W9 at *
  have x0 := NN.out.1.cell 0 rfl
  have x1 := NN.out.1.cell 1 rfl
  have x2 := NN.out.1.cell 2 rfl
  have x3 := NN.out.1.cell 3 rfl
  have x4 := NN.out.1.cell 4 rfl
  have x5 := NN.out.1.cell 5 rfl
  have x6 := NN.out.1.cell 6 rfl
  have x7 := NN.out.1.cell 7 rfl
  have x8 := NN.out.1.cell 8 rfl
  have x9 := NN.out.1.cell 9 rfl
  have F : Hid (Oq W9 w.heap.size (.slice v0 m0 k0) (.slice v1 m1 k1) (.slice v2 m2 k2) (.slice v3 m3 k3) (.slice v4 m4 k4) (.slice v5 m5 k5) BX) := ((OW.out.mono Z3.out).ho O9.out).mono (by have := HSs.out; omega)
  exact bodyPost_ret (v := .agg #[.int .i64 BC, .slice v0 m0 k0, .slice v1 m1 k1, .slice v2 m2 k2, .slice v3 m3 k3, .slice v4 m4 k4, .slice v5 m5 k5, .int .i64 sl, .int .i64 le, .int .i64 cl]) (by simp [results, Tryz.results6, go_sem, x0, x1, x2, x3, x4, x5, x6, x7, x8, x9]) rfl ⟨_, _, _, _, _, _, by rw [HSL.out.1, HSL.out.2.1, HSL.out.2.2], F.out, Mq.under B3.out NN.out.2 fun k e => by have := HSs.out; omega⟩
theorem s_twinHostO (a0 a1 a2 a3 : Option Addr) (n0 c0 n1 c1 n2 c2 n3 c3 : Nat) (P : Plc) (ga il ic : Nat) (iss : List (List Int)) (gb jl jc : Nat) (jss : List (List Int)) (gu : Int) (ma : Option Addr) (ml mk : Nat) (im : List Int) (pa : Option Addr) (pl pk : Nat) (inp : List Int) (bi bj bm bp : Nat) (w : World) (h : Pl w a0 n0 c0 a1 n1 c1 a2 n2 c2 a3 n3 c3 P) (sm : Small n0 n1 n2 n3 P) (hi : SwN w bi (some ⟨ga, 0, none⟩) il ic iss) (hj : SwN w bj (some ⟨gb, 0, none⟩) jl jc jss) (hm : Nums w bm (.slice ma ml mk) im) (hp : Nums w bp (.slice pa pl pk) inp) (hil : il ≤ 1048576) (hjl : jl ≤ 1048576) (h3 : 0 < n3 → ∃ g, a3 = some ⟨g, 0, none⟩) :
    Calls Tryz.prog 6 #[.agg #[.slice a0 n0 c0, .slice a1 n1 c1, .slice a2 n2 c2, .slice a3 n3 c3], .slice (some ⟨ga, 0, none⟩) il ic, .slice (some ⟨gb, 0, none⟩) jl jc, .int .i64 gu, .slice ma ml mk, .slice pa pl pk] w fun e w' => ∃ v0 v1 v2 v3 v4 v5, e = .returned (.agg #[.int .i64 (twC P iss jss gu im inp), v0, v1, v2, v3, v4, v5, .int .i64 (twX P iss jss gu im inp).slot, .int .i64 (twX P iss jss gu im inp).left, .int .i64 (twX P iss jss gu im inp).clock]) ∧ Oq w' w.heap.size v0 v1 v2 v3 v4 v5 (twX P iss jss gu im inp) ∧ Below w.heap.size w w' := by
  by_cases hv : askV P gu = 0
  · by_cases h1 : iss.length = P.own.length
    · by_cases h2 : jss.length = P.own.length
      · obtain ⟨_, g, rfl, _⟩ := tw_ask hv
        exact stw_good _ _ _ _ _ _ _ _ _ _ _ _ P _ _ _ iss _ _ _ jss g _ _ _ im _ _ _ inp bi bj bm bp w h sm hi hj hm hp hil hjl h3 hv ⟨h1, h2⟩
      · exact stw_many2 _ _ _ _ _ _ _ _ _ _ _ _ P _ _ _ iss _ _ _ jss gu _ _ _ im _ _ _ inp bi bj bm bp w h sm hi hj hm hp hil hjl h3 hv ⟨h1, h2⟩
    · exact stw_many1 _ _ _ _ _ _ _ _ _ _ _ _ P _ _ _ iss _ _ _ jss gu _ _ _ im _ _ _ inp bi bj bm bp w h sm hi hj hm hp hil hjl h3 hv h1
  · exact stw_fault _ _ _ _ _ _ _ _ _ _ _ _ P _ _ _ iss _ _ _ jss gu _ _ _ im _ _ _ inp bi bj bm bp w h sm hi hj hm hp hil hjl h3 hv
theorem s_twinHost (a0 a1 a2 a3 : Option Addr) (n0 c0 n1 c1 n2 c2 n3 c3 : Nat) (P : Plc) (ga il ic : Nat) (iss : List (List Int)) (gb jl jc : Nat) (jss : List (List Int)) (gu : Int) (ma : Option Addr) (ml mk : Nat) (im : List Int) (pa : Option Addr) (pl pk : Nat) (inp : List Int) (bi bj bm bp : Nat) (w : World) (h : Pl w a0 n0 c0 a1 n1 c1 a2 n2 c2 a3 n3 c3 P) (sm : Small n0 n1 n2 n3 P) (hi : SwN w bi (some ⟨ga, 0, none⟩) il ic iss) (hj : SwN w bj (some ⟨gb, 0, none⟩) jl jc jss) (hm : Nums w bm (.slice ma ml mk) im) (hp : Nums w bp (.slice pa pl pk) inp) (hil : il ≤ 1048576) (hjl : jl ≤ 1048576) (h3 : 0 < n3 → ∃ g, a3 = some ⟨g, 0, none⟩) :
    Calls Tryz.prog 6 #[.agg #[.slice a0 n0 c0, .slice a1 n1 c1, .slice a2 n2 c2, .slice a3 n3 c3], .slice (some ⟨ga, 0, none⟩) il ic, .slice (some ⟨gb, 0, none⟩) jl jc, .int .i64 gu, .slice ma ml mk, .slice pa pl pk] w fun e w' => ∃ v0 v1 v2 v3 v4 v5, e = .returned (.agg #[.int .i64 (twC P iss jss gu im inp), v0, v1, v2, v3, v4, v5, .int .i64 (twX P iss jss gu im inp).slot, .int .i64 (twX P iss jss gu im inp).left, .int .i64 (twX P iss jss gu im inp).clock]) ∧ Hq w' w.heap.size v0 v1 v2 v3 v4 v5 (twX P iss jss gu im inp) ∧ Below w.heap.size w w' :=
  (s_twinHostO _ _ _ _ _ _ _ _ _ _ _ _ P _ _ _ iss _ _ _ jss gu _ _ _ im _ _ _ inp bi bj bm bp w h sm hi hj hm hp hil hjl h3).mono fun e w' ⟨v0, v1, v2, v3, v4, v5, k1, k2, k3⟩ => ⟨v0, v1, v2, v3, v4, v5, k1, k2.hq, k3⟩
end Go.Proofs.YtmgninipaigjfaaGreatDoor
