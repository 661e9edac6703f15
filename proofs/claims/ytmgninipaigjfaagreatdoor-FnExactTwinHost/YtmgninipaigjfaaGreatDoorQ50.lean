/- Texts of this seat, joined. -/
import Derived.Deep.RegionWith
import Derived.Deep.RegionHeld3
import Derived.Deep.Cut
import Derived.Deep.CutRange
import Derived.Test.YtmgninipaigjfaaGreatDoorQ47
namespace Go.Proofs.YtmgninipaigjfaaGreatDoor
open Go.RowKit
set_option linter.unusedVariables false

set_option maxRecDepth 20000 in
set_option maxHeartbeats 8000000 in
theorem i_cloneSS (p n c : Nat) (ys : List Value) (w : World) (hR : ∀ (j : Nat) (u : Value), ys[j]? = some u → w.cell? ⟨p, j, none⟩ = some u ∧ u.oneCell' = true) (hm : ys.length = n) (hn : n ≤ 1048576) :
    Calls Tryz.prog 55 #[.slice (some ⟨p, 0, none⟩) n c] w fun e w' => ∃ la lk, e = .returned (.slice la n lk) ∧ w'.ownsRow w.heap.size 28 1 (.slice la n lk) n ys ∧ Below w.heap.size w w' := by
  have HR : Hid (∀ (j : Nat) (u : Value), ys[j]? = some u → w.cell? ⟨p, j, none⟩ = some u ∧ u.oneCell' = true) := hR
  have HL : Hid (ys.length = n ∧ n ≤ 1048576) := ⟨hm, hn⟩
  clear hR hm hn
  have hnil : ∀ W, (binOp .eql 22 (.slice (some ⟨p, 0, none⟩) n c) (.slice none 0 0)).run Tryz.prog W = .ok (.bool false) W := fun W => Lib.run_eql_slice_some_nil W _ _ _ Tryz.underlying22
  go_enter Tryz.func55, Tryz.ntmps55
  go_wp2_with (at_builtin; refine wp_appSS _ rfl _ _ rfl w.heap.size _ rfl (World.ownsRow_lit w #[] 0 (Nat.le_refl _) (by decide) rfl) p n c ys rfl (fun j u hj => ⟨cell_keep (al (Below.refl _ _) _) (HR.out j u hj).1, (HR.out j u hj).2⟩) HL.out.1 (by have := HL.out.2; omega) (by simp) ?_; intro la lk w' hN' hG')
  have B : Below w.heap.size w w' := (al (Below.refl _ _) _ : Below w.heap.size w (w.alloc (.cells #[] 28))).grown hG' (by simp) (fun k e => by simp at e; omega)
  go_wp2_with fail
  go_ret
  exact ⟨_, _, rfl, hN', B⟩
set_option maxRecDepth 20000 in
set_option maxHeartbeats 8000000 in
theorem i_listAt (ga n c : Nat) (oss : List (List Int)) (g : Nat) (za : Option Addr) (zl zk : Nat) (zs : List Int) (b bz : Nat) (w : World) (h : SwN w b (some ⟨ga, 0, none⟩) n c oss) (hg : g < n) (hn : n ≤ 1048576) (hz : Nums w bz (.slice za zl zk) zs) :
    Calls Tryz.prog 31 #[.slice (some ⟨ga, 0, none⟩) n c, .int .i64 (g : Int), .slice za zl zk] w fun e w' => ∃ ra rk, e = .returned (.slice (some ⟨ra, 0, none⟩) n rk) ∧ SwN w' 0 (some ⟨ra, 0, none⟩) n rk (oss.set g zs) ∧ Below w.heap.size w w' := by
  obtain ⟨xs, xl, hx⟩ := h.mono0.vals
  have HX : Hid (xs.length = n ∧ n = oss.length ∧ g < n ∧ n ≤ 1048576) := ⟨xl, h.len.1.symm, hg, hn⟩
  have HV : Hid (∀ (i : Nat) (x : Value), xs[i]? = some x → w.cell? ⟨ga, i, none⟩ = some x ∧ x.oneCell' = true ∧ (∃ a l k, x = .slice a l k) ∧ Nums w 0 x (oss.getD i [])) := hx
  have HZ : Hid (Nums w 0 (.slice za zl zk) zs) := hz.mono (Nat.zero_le _)
  have gI : (g : Int) < (n : Int) := by omega
  have nI : (n : Int) ≤ 1048576 := by omega
  clear h hg hn hz hx xl
  go_enter Tryz.func31, Tryz.ntmps31
  go_wp2_with fail
  refine (i_cloneSS ga n c xs _ (fun j u hj => ⟨(HV.out j u hj).1, (HV.out j u hj).2.1⟩) HX.out.1 HX.out.2.2.2).mono ?_
  rintro e w1 ⟨la, lk, rfl, hr, b1⟩
  obtain ⟨ra, hra⟩ : ∃ ra, la = some ⟨ra, 0, none⟩ := by
    obtain ⟨_, ⟨_, h2⟩ | ⟨g', _, _, e, _⟩⟩ := hr
    · have := HX.out; omega
    · simp at e; exact ⟨g', e.1⟩
  subst hra
  have HR : Hid (w1.ownsRow w.heap.size 28 1 (.slice (some ⟨ra, 0, none⟩) n lk) n xs) := hr
  have B1 : Hid (Below w.heap.size w w1) := b1
  obtain ⟨x0, hx0⟩ : ∃ x, xs[g]? = some x := ⟨xs[g]'(by have := HX.out; omega), List.getElem?_eq_getElem _⟩
  have c0 := World.ownsRow.cellAt hr g (by have := HX.out; omega)
  rw [hx0] at c0
  obtain ⟨ya, yl, yk, hy⟩ := (HV.out g x0 hx0).2.2.1
  rw [hy] at c0
  have f0 := World.ownsRow.frozenAt hr g
  have lt := block_of_cell c0
  obtain ⟨st, gr⟩ := World.ownsRow.stored hr g (.slice za zl zk)
  have ST : Hid ((w1.setCell ⟨ra, g, none⟩ (.slice za zl zk)).ownsRow w.heap.size 28 1 (.slice (some ⟨ra, 0, none⟩) n lk) n (xs.set g (.slice za zl zk)) ∧ w1.grownBy (w1.setCell ⟨ra, g, none⟩ (.slice za zl zk)) (some ra)) := ⟨st, gr⟩
  clear hr b1 st gr hx0 hy
  go_wp2_with fail
  go_ret
  have RB : w.heap.size ≤ ra := (World.ownsRow.lt HR.out ra rfl).1
  have KP : ∀ (x : Value) (ys : List Int), Nums w1 0 x ys → Nums (w1.setCell ⟨ra, g, none⟩ (.slice za zl zk)) 0 x ys := fun x ys hx => World.ownsRow.kept hx ST.out.2 (row_typesX hx HR.out (by decide))
  exact ⟨ra, lk, rfl, swn_set (w := w1) (b := w.heap.size) (xs := xs) (fun i x e => ⟨(HV.out i x e).2.2.1, (HV.out i x e).2.2.2.keep B1.out⟩) (by have := HX.out; omega) ST.out.1 HX.out.1.symm HX.out.2.2.1 ⟨_, _, _, rfl⟩ (KP _ _ (HZ.out.keep B1.out)) KP, B1.out.setCell (by show w.heap.size ≤ ra; exact RB) _⟩
theorem owe_shapes {w : World} {base : Nat} {v0 v1 v2 v3 v4 v5 : Value} {X : Hst} (h : OwE w base v0 v1 v2 v3 v4 v5 X) : ∃ a0 a1 a2 a3 a4 a5 c0 c1 c2 c3 c4 c5 n0 n1 n2 n3 n4 n5, v0 = .slice a0 n0 c0 ∧ v1 = .slice a1 n1 c1 ∧ v2 = .slice a2 n2 c2 ∧ v3 = .slice a3 n3 c3 ∧ v4 = .slice a4 n4 c4 ∧ v5 = .slice a5 n5 c5 := by
  obtain ⟨xs, qs, h⟩ := h
  obtain ⟨a0, c0, e0⟩ := row_shape h.own
  obtain ⟨a1, c1, e1⟩ := row_shape h.lanes
  obtain ⟨a2, c2, e2⟩ := row_shape h.bells
  obtain ⟨a3, c3, e3⟩ := row_shape h.plan
  obtain ⟨a4, c4, e4, _⟩ := h.mem.shape
  obtain ⟨a5, c5, e5⟩ := row_shape h.harts
  exact ⟨a0, a1, a2, a3, a4, a5, c0, c1, c2, c3, c4, c5, _, _, _, _, _, _, e0, e1, e2, e3, e4, e5⟩
set_option maxRecDepth 20000 in
set_option maxHeartbeats 8000000 in
theorem itw_fault (a0 a1 a2 a3 : Option Addr) (n0 c0 n1 c1 n2 c2 n3 c3 : Nat) (P : Plc) (ga il ic : Nat) (iss : List (List Int)) (gb jl jc : Nat) (jss : List (List Int)) (gu : Int) (ma : Option Addr) (ml mk : Nat) (im : List Int) (pa : Option Addr) (pl pk : Nat) (inp : List Int) (bi bj bm bp : Nat) (w : World) (h : Pl w a0 n0 c0 a1 n1 c1 a2 n2 c2 a3 n3 c3 P) (sm : Small n0 n1 n2 n3 P) (hi : SwN w bi (some ⟨ga, 0, none⟩) il ic iss) (hj : SwN w bj (some ⟨gb, 0, none⟩) jl jc jss) (hm : Nums w bm (.slice ma ml mk) im) (hp : Nums w bp (.slice pa pl pk) inp) (hil : il ≤ 1048576) (hjl : jl ≤ 1048576) (hg : w.cell? ⟨0, 0, none⟩ = some (.iface 165 (.agg #[.pointer (some ⟨1, 112, none⟩)]))) (hv : askV P gu ≠ 0) :
    Calls Tryz.prog 10 #[.agg #[.slice a0 n0 c0, .slice a1 n1 c1, .slice a2 n2 c2, .slice a3 n3 c3], .slice (some ⟨ga, 0, none⟩) il ic, .slice (some ⟨gb, 0, none⟩) jl jc, .int .i64 gu, .slice ma ml mk, .slice pa pl pk] w fun e w' => ∃ v0 v1 v2 v3 v4 v5, e = .returned (.agg #[.int .i64 (twC P iss jss gu im inp), v0, v1, v2, v3, v4, v5, .int .i64 (twX P iss jss gu im inp).slot, .int .i64 (twX P iss jss gu im inp).left, .int .i64 (twX P iss jss gu im inp).clock]) ∧ OwE w' w.heap.size v0 v1 v2 v3 v4 v5 (twX P iss jss gu im inp) ∧ Below w.heap.size w w' := by
  have hk : twK P iss jss gu = askV P gu := by rw [twK, if_neg hv]
  have hx : twC P iss jss gu im inp = askV P gu := by rw [twC, if_neg (by rw [hk]; exact hv), hk]
  have hX : twX P iss jss gu im inp = voidX := by rw [twX, if_neg (by rw [hk]; exact hv)]
  rw [hx, hX]
  obtain ⟨cx, hcx⟩ : ∃ cx, askV P gu = cx := ⟨_, rfl⟩
  rw [hcx] at hv ⊢
  have HV : Hid (askV P gu = cx) := hcx
  clear hx hcx hk hX
  generalize hW : (w.alloc (.cells #[.slice a0 n0 c0, .slice a1 n1 c1, .slice a2 n2 c2, .slice a3 n3 c3] 35)).alloc (.cells #[.int .i64 0, .slice none 0 0, .slice none 0 0, .slice none 0 0, .slice none 0 0, .slice none 0 0, .slice none 0 0, .int .i64 0, .int .i64 0, .int .i64 0] 40) = W
  have B0 : Hid (Below w.heap.size w W) := by show Below _ _ _; rw [← hW]; exact al (al (Below.refl _ _) _) _
  obtain ⟨s, hS⟩ : ∃ s, w.heap.size = s := ⟨_, rfl⟩
  have HSs : Hid (w.heap.size = s) := hS
  have z1 : s + 1 = (w.alloc (.cells #[.slice a0 n0 c0, .slice a1 n1 c1, .slice a2 n2 c2, .slice a3 n3 c3] 35)).heap.size := by rw [← hS]; simp
  have Q : Hid (Vb W s #[.slice a0 n0 c0, .slice a1 n1 c1, .slice a2 n2 c2, .slice a3 n3 c3] 35) := by show Vb _ _ _ _; rw [← hW, ← hS]; exact (Vb.new _ _ _).push _
  have R : Hid (Vb W (s + 1) #[.int .i64 0, .slice none 0 0, .slice none 0 0, .slice none 0 0, .slice none 0 0, .slice none 0 0, .slice none 0 0, .int .i64 0, .int .i64 0, .int .i64 0] 40) := by show Vb _ _ _ _; rw [← hW, z1]; exact Vb.new _ _ _
  have ZW : Hid (s + 2 = W.heap.size) := by show _ = _; rw [← hW, ← hS]; simp
  clear z1
  have D : Hid (Pl W a0 n0 c0 a1 n1 c1 a2 n2 c2 a3 n3 c3 P) := h.stay B0.out
  have SMP : Hid (Small n0 n1 n2 n3 P) := sm
  have N0 : Hid (n0 = P.own.length) := h.own.len
  have NI : Hid (SwN W bi (some ⟨ga, 0, none⟩) il ic iss ∧ SwN W bj (some ⟨gb, 0, none⟩) jl jc jss) := ⟨hi.keep B0.out, hj.keep B0.out⟩
  have NM : Hid (Nums W bm (.slice ma ml mk) im ∧ Nums W bp (.slice pa pl pk) inp) := ⟨hm.keep B0.out, hp.keep B0.out⟩
  have IL : Hid (iss.length = il ∧ jss.length = jl ∧ il ≤ 1048576 ∧ jl ≤ 1048576) := ⟨hi.len.1, hj.len.1, hil, hjl⟩
  have HGE : Hid (_ = _) := cell_keep B0.out hg
  clear hg
  clear h hi hj sm hm hp hil hjl
  have q0 := Q.out.cell 0 rfl
  have q1 := Q.out.cell 1 rfl
  have q2 := Q.out.cell 2 rfl
  have q3 := Q.out.cell 3 rfl
  go_enter Tryz.func10, Tryz.ntmps10
  go_wp2_with fail
  clear hW hS q0 q1 q2 q3
  refine (i_asked _ _ _ _ _ _ _ _ _ _ _ _ P _ _ D.out HGE.out).mono ?_
  rw [HV.out]
  rintro e w1 ⟨rfl, b1'⟩
  have B1 : Hid (Below w.heap.size w w1) := on B0.out b1'
  have E1 : Hid (Below W.heap.size W w1) := b1'
  have R1 : Hid (Vb w1 (s + 1) #[.int .i64 0, .slice none 0 0, .slice none 0 0, .slice none 0 0, .slice none 0 0, .slice none 0 0, .slice none 0 0, .int .i64 0, .int .i64 0, .int .i64 0] 40) := R.out.keep b1'
  have Q1 : Hid (Vb w1 s #[.slice a0 n0 c0, .slice a1 n1 c1, .slice a2 n2 c2, .slice a3 n3 c3] 35) := Q.out.keep b1'
  clear b1'
  have p0 := R1.out.cell 0 rfl
  have f0 := R1.out.free 0
  have p1 := R1.out.cell 1 rfl
  have f1 := R1.out.free 1
  have p2 := R1.out.cell 2 rfl
  have f2 := R1.out.free 2
  have p3 := R1.out.cell 3 rfl
  have f3 := R1.out.free 3
  have p4 := R1.out.cell 4 rfl
  have f4 := R1.out.free 4
  have p5 := R1.out.cell 5 rfl
  have f5 := R1.out.free 5
  have p6 := R1.out.cell 6 rfl
  have f6 := R1.out.free 6
  have p7 := R1.out.cell 7 rfl
  have f7 := R1.out.free 7
  have p8 := R1.out.cell 8 rfl
  have f8 := R1.out.free 8
  have p9 := R1.out.cell 9 rfl
  have f9 := R1.out.free 9
  have lt := R1.out.lt
  go_wp2_with fail
  clear lt p0 f0 p1 f1 p2 f2 p3 f3 p4 f4 p5 f5 p6 f6 p7 f7 p8 f8 p9 f9
  have NN : Hid (_ ∧ _) := ten R1.out (.int .i64 cx) (.slice none 0 0) (.slice none 0 0) (.slice none 0 0) (.slice none 0 0) (.slice none 0 0) (.slice none 0 0) (.int .i64 0) (.int .i64 0) (.int .i64 0)
  generalize ((((((((((w1.setCell ⟨s + 1, 0, none⟩ (.int .i64 cx)).setCell ⟨s + 1, 1, none⟩ (.slice none 0 0)).setCell ⟨s + 1, 2, none⟩ (.slice none 0 0)).setCell ⟨s + 1, 3, none⟩ (.slice none 0 0)).setCell ⟨s + 1, 4, none⟩ (.slice none 0 0)).setCell ⟨s + 1, 5, none⟩ (.slice none 0 0)).setCell ⟨s + 1, 6, none⟩ (.slice none 0 0)).setCell ⟨s + 1, 7, none⟩ (.int .i64 0)).setCell ⟨s + 1, 8, none⟩ (.int .i64 0)).setCell ⟨s + 1, 9, none⟩ (.int .i64 0)) = W9 at *
  have x0 := NN.out.1.cell 0 rfl
  have x1 := NN.out.1.cell 1 rfl
  have x2 := NN.out.1.cell 2 rfl
  have x3 := NN.out.1.cell 3 rfl
  have x4 := NN.out.1.cell 4 rfl
  have x5 := NN.out.1.cell 5 rfl
  have x6 := NN.out.1.cell 6 rfl
  have x7 := NN.out.1.cell 7 rfl
  have x8 := NN.out.1.cell 8 rfl
  have x9 := NN.out.1.cell 9 rfl
  exact bodyPost_ret (v := .agg #[.int .i64 cx, .slice none 0 0, .slice none 0 0, .slice none 0 0, .slice none 0 0, .slice none 0 0, .slice none 0 0, .int .i64 0, .int .i64 0, .int .i64 0]) (by simp [results, Tryz.results10, go_sem, x0, x1, x2, x3, x4, x5, x6, x7, x8, x9]) rfl ⟨_, _, _, _, _, _, rfl, ⟨[], [], ow_void _ _⟩, Mq.under B1.out NN.out.2 fun k e => by have := HSs.out; omega⟩
set_option maxRecDepth 20000 in
set_option maxHeartbeats 8000000 in
theorem itw_many1 (a0 a1 a2 a3 : Option Addr) (n0 c0 n1 c1 n2 c2 n3 c3 : Nat) (P : Plc) (ga il ic : Nat) (iss : List (List Int)) (gb jl jc : Nat) (jss : List (List Int)) (gu : Int) (ma : Option Addr) (ml mk : Nat) (im : List Int) (pa : Option Addr) (pl pk : Nat) (inp : List Int) (bi bj bm bp : Nat) (w : World) (h : Pl w a0 n0 c0 a1 n1 c1 a2 n2 c2 a3 n3 c3 P) (sm : Small n0 n1 n2 n3 P) (hi : SwN w bi (some ⟨ga, 0, none⟩) il ic iss) (hj : SwN w bj (some ⟨gb, 0, none⟩) jl jc jss) (hm : Nums w bm (.slice ma ml mk) im) (hp : Nums w bp (.slice pa pl pk) inp) (hil : il ≤ 1048576) (hjl : jl ≤ 1048576) (hg : w.cell? ⟨0, 0, none⟩ = some (.iface 165 (.agg #[.pointer (some ⟨1, 112, none⟩)]))) (hv : askV P gu = 0) (hl : iss.length ≠ P.own.length) :
    Calls Tryz.prog 10 #[.agg #[.slice a0 n0 c0, .slice a1 n1 c1, .slice a2 n2 c2, .slice a3 n3 c3], .slice (some ⟨ga, 0, none⟩) il ic, .slice (some ⟨gb, 0, none⟩) jl jc, .int .i64 gu, .slice ma ml mk, .slice pa pl pk] w fun e w' => ∃ v0 v1 v2 v3 v4 v5, e = .returned (.agg #[.int .i64 (twC P iss jss gu im inp), v0, v1, v2, v3, v4, v5, .int .i64 (twX P iss jss gu im inp).slot, .int .i64 (twX P iss jss gu im inp).left, .int .i64 (twX P iss jss gu im inp).clock]) ∧ OwE w' w.heap.size v0 v1 v2 v3 v4 v5 (twX P iss jss gu im inp) ∧ Below w.heap.size w w' := by
  have hk : twK P iss jss gu = 2 := by rw [twK, if_pos hv, if_neg (fun e => hl e.1)]
  have hx : twC P iss jss gu im inp = 2 := by rw [twC, if_neg (by rw [hk]; decide), hk]
  have hX : twX P iss jss gu im inp = voidX := by rw [twX, if_neg (by rw [hk]; decide)]
  rw [hx, hX]
  have HV : Hid (askV P gu = 0) := hv
  have HL : Hid (iss.length ≠ P.own.length) := hl
  clear hx hv hl hk hX
  generalize hW : (w.alloc (.cells #[.slice a0 n0 c0, .slice a1 n1 c1, .slice a2 n2 c2, .slice a3 n3 c3] 35)).alloc (.cells #[.int .i64 0, .slice none 0 0, .slice none 0 0, .slice none 0 0, .slice none 0 0, .slice none 0 0, .slice none 0 0, .int .i64 0, .int .i64 0, .int .i64 0] 40) = W
  have B0 : Hid (Below w.heap.size w W) := by show Below _ _ _; rw [← hW]; exact al (al (Below.refl _ _) _) _
  obtain ⟨s, hS⟩ : ∃ s, w.heap.size = s := ⟨_, rfl⟩
  have HSs : Hid (w.heap.size = s) := hS
  have z1 : s + 1 = (w.alloc (.cells #[.slice a0 n0 c0, .slice a1 n1 c1, .slice a2 n2 c2, .slice a3 n3 c3] 35)).heap.size := by rw [← hS]; simp
  have Q : Hid (Vb W s #[.slice a0 n0 c0, .slice a1 n1 c1, .slice a2 n2 c2, .slice a3 n3 c3] 35) := by show Vb _ _ _ _; rw [← hW, ← hS]; exact (Vb.new _ _ _).push _
  have R : Hid (Vb W (s + 1) #[.int .i64 0, .slice none 0 0, .slice none 0 0, .slice none 0 0, .slice none 0 0, .slice none 0 0, .slice none 0 0, .int .i64 0, .int .i64 0, .int .i64 0] 40) := by show Vb _ _ _ _; rw [← hW, z1]; exact Vb.new _ _ _
  have ZW : Hid (s + 2 = W.heap.size) := by show _ = _; rw [← hW, ← hS]; simp
  clear z1
  have D : Hid (Pl W a0 n0 c0 a1 n1 c1 a2 n2 c2 a3 n3 c3 P) := h.stay B0.out
  have SMP : Hid (Small n0 n1 n2 n3 P) := sm
  have N0 : Hid (n0 = P.own.length) := h.own.len
  have NI : Hid (SwN W bi (some ⟨ga, 0, none⟩) il ic iss ∧ SwN W bj (some ⟨gb, 0, none⟩) jl jc jss) := ⟨hi.keep B0.out, hj.keep B0.out⟩
  have NM : Hid (Nums W bm (.slice ma ml mk) im ∧ Nums W bp (.slice pa pl pk) inp) := ⟨hm.keep B0.out, hp.keep B0.out⟩
  have IL : Hid (iss.length = il ∧ jss.length = jl ∧ il ≤ 1048576 ∧ jl ≤ 1048576) := ⟨hi.len.1, hj.len.1, hil, hjl⟩
  have HGE : Hid (_ = _) := cell_keep B0.out hg
  clear hg
  clear h hi hj sm hm hp hil hjl
  have q0 := Q.out.cell 0 rfl
  have q1 := Q.out.cell 1 rfl
  have q2 := Q.out.cell 2 rfl
  have q3 := Q.out.cell 3 rfl
  go_enter Tryz.func10, Tryz.ntmps10
  go_wp2_with fail
  clear hW hS q0 q1 q2 q3
  refine (i_asked _ _ _ _ _ _ _ _ _ _ _ _ P _ _ D.out HGE.out).mono ?_
  rw [HV.out]
  rintro e w1 ⟨rfl, b1'⟩
  have B1 : Hid (Below w.heap.size w w1) := on B0.out b1'
  have E1 : Hid (Below W.heap.size W w1) := b1'
  have R1 : Hid (Vb w1 (s + 1) #[.int .i64 0, .slice none 0 0, .slice none 0 0, .slice none 0 0, .slice none 0 0, .slice none 0 0, .slice none 0 0, .int .i64 0, .int .i64 0, .int .i64 0] 40) := R.out.keep b1'
  have Q1 : Hid (Vb w1 s #[.slice a0 n0 c0, .slice a1 n1 c1, .slice a2 n2 c2, .slice a3 n3 c3] 35) := Q.out.keep b1'
  clear b1'
  have hne : ¬ (il : Int) = (n0 : Int) := by have := HL.out; have := N0.out; have := IL.out.1; omega
  have hne2 : ¬ il = n0 := by omega
  have i1 : (il : Int) ≤ 9223372036854775807 := by have := IL.out.2.2.1; omega
  have i2 : (jl : Int) ≤ 9223372036854775807 := by have := IL.out.2.2.2; omega
  have i3 : (n0 : Int) ≤ 9223372036854775807 := by have := SMP.out.own; omega
  have q0 := Q1.out.cell 0 rfl
  have p0 := R1.out.cell 0 rfl
  have f0 := R1.out.free 0
  have p1 := R1.out.cell 1 rfl
  have f1 := R1.out.free 1
  have p2 := R1.out.cell 2 rfl
  have f2 := R1.out.free 2
  have p3 := R1.out.cell 3 rfl
  have f3 := R1.out.free 3
  have p4 := R1.out.cell 4 rfl
  have f4 := R1.out.free 4
  have p5 := R1.out.cell 5 rfl
  have f5 := R1.out.free 5
  have p6 := R1.out.cell 6 rfl
  have f6 := R1.out.free 6
  have p7 := R1.out.cell 7 rfl
  have f7 := R1.out.free 7
  have p8 := R1.out.cell 8 rfl
  have f8 := R1.out.free 8
  have p9 := R1.out.cell 9 rfl
  have f9 := R1.out.free 9
  have lt := R1.out.lt
  go_wp2_with fail
  clear lt p0 f0 p1 f1 p2 f2 p3 f3 p4 f4 p5 f5 p6 f6 p7 f7 p8 f8 p9 f9
  have NN : Hid (_ ∧ _) := ten R1.out (.int .i64 2) (.slice none 0 0) (.slice none 0 0) (.slice none 0 0) (.slice none 0 0) (.slice none 0 0) (.slice none 0 0) (.int .i64 0) (.int .i64 0) (.int .i64 0)
  generalize ((((((((((w1.setCell ⟨s + 1, 0, none⟩ (.int .i64 2)).setCell ⟨s + 1, 1, none⟩ (.slice none 0 0)).setCell ⟨s + 1, 2, none⟩ (.slice none 0 0)).setCell ⟨s + 1, 3, none⟩ (.slice none 0 0)).setCell ⟨s + 1, 4, none⟩ (.slice none 0 0)).setCell ⟨s + 1, 5, none⟩ (.slice none 0 0)).setCell ⟨s + 1, 6, none⟩ (.slice none 0 0)).setCell ⟨s + 1, 7, none⟩ (.int .i64 0)).setCell ⟨s + 1, 8, none⟩ (.int .i64 0)).setCell ⟨s + 1, 9, none⟩ (.int .i64 0)) = W9 at *
  have x0 := NN.out.1.cell 0 rfl
  have x1 := NN.out.1.cell 1 rfl
  have x2 := NN.out.1.cell 2 rfl
  have x3 := NN.out.1.cell 3 rfl
  have x4 := NN.out.1.cell 4 rfl
  have x5 := NN.out.1.cell 5 rfl
  have x6 := NN.out.1.cell 6 rfl
  have x7 := NN.out.1.cell 7 rfl
  have x8 := NN.out.1.cell 8 rfl
  have x9 := NN.out.1.cell 9 rfl
  exact bodyPost_ret (v := .agg #[.int .i64 2, .slice none 0 0, .slice none 0 0, .slice none 0 0, .slice none 0 0, .slice none 0 0, .slice none 0 0, .int .i64 0, .int .i64 0, .int .i64 0]) (by simp [results, Tryz.results10, go_sem, x0, x1, x2, x3, x4, x5, x6, x7, x8, x9]) rfl ⟨_, _, _, _, _, _, rfl, ⟨[], [], ow_void _ _⟩, Mq.under B1.out NN.out.2 fun k e => by have := HSs.out; omega⟩
set_option maxRecDepth 20000 in
set_option maxHeartbeats 8000000 in
theorem itw_many2 (a0 a1 a2 a3 : Option Addr) (n0 c0 n1 c1 n2 c2 n3 c3 : Nat) (P : Plc) (ga il ic : Nat) (iss : List (List Int)) (gb jl jc : Nat) (jss : List (List Int)) (gu : Int) (ma : Option Addr) (ml mk : Nat) (im : List Int) (pa : Option Addr) (pl pk : Nat) (inp : List Int) (bi bj bm bp : Nat) (w : World) (h : Pl w a0 n0 c0 a1 n1 c1 a2 n2 c2 a3 n3 c3 P) (sm : Small n0 n1 n2 n3 P) (hi : SwN w bi (some ⟨ga, 0, none⟩) il ic iss) (hj : SwN w bj (some ⟨gb, 0, none⟩) jl jc jss) (hm : Nums w bm (.slice ma ml mk) im) (hp : Nums w bp (.slice pa pl pk) inp) (hil : il ≤ 1048576) (hjl : jl ≤ 1048576) (hg : w.cell? ⟨0, 0, none⟩ = some (.iface 165 (.agg #[.pointer (some ⟨1, 112, none⟩)]))) (hv : askV P gu = 0) (hl : iss.length = P.own.length ∧ jss.length ≠ P.own.length) :
    Calls Tryz.prog 10 #[.agg #[.slice a0 n0 c0, .slice a1 n1 c1, .slice a2 n2 c2, .slice a3 n3 c3], .slice (some ⟨ga, 0, none⟩) il ic, .slice (some ⟨gb, 0, none⟩) jl jc, .int .i64 gu, .slice ma ml mk, .slice pa pl pk] w fun e w' => ∃ v0 v1 v2 v3 v4 v5, e = .returned (.agg #[.int .i64 (twC P iss jss gu im inp), v0, v1, v2, v3, v4, v5, .int .i64 (twX P iss jss gu im inp).slot, .int .i64 (twX P iss jss gu im inp).left, .int .i64 (twX P iss jss gu im inp).clock]) ∧ OwE w' w.heap.size v0 v1 v2 v3 v4 v5 (twX P iss jss gu im inp) ∧ Below w.heap.size w w' := by
  have hk : twK P iss jss gu = 2 := by rw [twK, if_pos hv, if_neg (fun e => hl.2 e.2)]
  have hx : twC P iss jss gu im inp = 2 := by rw [twC, if_neg (by rw [hk]; decide), hk]
  have hX : twX P iss jss gu im inp = voidX := by rw [twX, if_neg (by rw [hk]; decide)]
  rw [hx, hX]
  have HV : Hid (askV P gu = 0) := hv
  have HL : Hid (iss.length = P.own.length ∧ jss.length ≠ P.own.length) := hl
  clear hx hv hl hk hX
  generalize hW : (w.alloc (.cells #[.slice a0 n0 c0, .slice a1 n1 c1, .slice a2 n2 c2, .slice a3 n3 c3] 35)).alloc (.cells #[.int .i64 0, .slice none 0 0, .slice none 0 0, .slice none 0 0, .slice none 0 0, .slice none 0 0, .slice none 0 0, .int .i64 0, .int .i64 0, .int .i64 0] 40) = W
  have B0 : Hid (Below w.heap.size w W) := by show Below _ _ _; rw [← hW]; exact al (al (Below.refl _ _) _) _
  obtain ⟨s, hS⟩ : ∃ s, w.heap.size = s := ⟨_, rfl⟩
  have HSs : Hid (w.heap.size = s) := hS
  have z1 : s + 1 = (w.alloc (.cells #[.slice a0 n0 c0, .slice a1 n1 c1, .slice a2 n2 c2, .slice a3 n3 c3] 35)).heap.size := by rw [← hS]; simp
  have Q : Hid (Vb W s #[.slice a0 n0 c0, .slice a1 n1 c1, .slice a2 n2 c2, .slice a3 n3 c3] 35) := by show Vb _ _ _ _; rw [← hW, ← hS]; exact (Vb.new _ _ _).push _
  have R : Hid (Vb W (s + 1) #[.int .i64 0, .slice none 0 0, .slice none 0 0, .slice none 0 0, .slice none 0 0, .slice none 0 0, .slice none 0 0, .int .i64 0, .int .i64 0, .int .i64 0] 40) := by show Vb _ _ _ _; rw [← hW, z1]; exact Vb.new _ _ _
  have ZW : Hid (s + 2 = W.heap.size) := by show _ = _; rw [← hW, ← hS]; simp
  clear z1
  have D : Hid (Pl W a0 n0 c0 a1 n1 c1 a2 n2 c2 a3 n3 c3 P) := h.stay B0.out
  have SMP : Hid (Small n0 n1 n2 n3 P) := sm
  have N0 : Hid (n0 = P.own.length) := h.own.len
  have NI : Hid (SwN W bi (some ⟨ga, 0, none⟩) il ic iss ∧ SwN W bj (some ⟨gb, 0, none⟩) jl jc jss) := ⟨hi.keep B0.out, hj.keep B0.out⟩
  have NM : Hid (Nums W bm (.slice ma ml mk) im ∧ Nums W bp (.slice pa pl pk) inp) := ⟨hm.keep B0.out, hp.keep B0.out⟩
  have IL : Hid (iss.length = il ∧ jss.length = jl ∧ il ≤ 1048576 ∧ jl ≤ 1048576) := ⟨hi.len.1, hj.len.1, hil, hjl⟩
  have HGE : Hid (_ = _) := cell_keep B0.out hg
  clear hg
  clear h hi hj sm hm hp hil hjl
  have q0 := Q.out.cell 0 rfl
  have q1 := Q.out.cell 1 rfl
  have q2 := Q.out.cell 2 rfl
  have q3 := Q.out.cell 3 rfl
  go_enter Tryz.func10, Tryz.ntmps10
  go_wp2_with fail
  clear hW hS q0 q1 q2 q3
  refine (i_asked _ _ _ _ _ _ _ _ _ _ _ _ P _ _ D.out HGE.out).mono ?_
  rw [HV.out]
  rintro e w1 ⟨rfl, b1'⟩
  have B1 : Hid (Below w.heap.size w w1) := on B0.out b1'
  have E1 : Hid (Below W.heap.size W w1) := b1'
  have R1 : Hid (Vb w1 (s + 1) #[.int .i64 0, .slice none 0 0, .slice none 0 0, .slice none 0 0, .slice none 0 0, .slice none 0 0, .slice none 0 0, .int .i64 0, .int .i64 0, .int .i64 0] 40) := R.out.keep b1'
  have Q1 : Hid (Vb w1 s #[.slice a0 n0 c0, .slice a1 n1 c1, .slice a2 n2 c2, .slice a3 n3 c3] 35) := Q.out.keep b1'
  clear b1'
  have hne : (il : Int) = (n0 : Int) := by have := HL.out.1; have := N0.out; have := IL.out.1; omega
  have hne2 : il = n0 := by omega
  have hnf : ¬ (jl : Int) = (n0 : Int) := by have := HL.out.2; have := N0.out; have := IL.out.2.1; omega
  have hnf2 : ¬ jl = n0 := by omega
  have i1 : (il : Int) ≤ 9223372036854775807 := by have := IL.out.2.2.1; omega
  have i2 : (jl : Int) ≤ 9223372036854775807 := by have := IL.out.2.2.2; omega
  have i3 : (n0 : Int) ≤ 9223372036854775807 := by have := SMP.out.own; omega
  have q0 := Q1.out.cell 0 rfl
  have p0 := R1.out.cell 0 rfl
  have f0 := R1.out.free 0
  have p1 := R1.out.cell 1 rfl
  have f1 := R1.out.free 1
  have p2 := R1.out.cell 2 rfl
  have f2 := R1.out.free 2
  have p3 := R1.out.cell 3 rfl
  have f3 := R1.out.free 3
  have p4 := R1.out.cell 4 rfl
  have f4 := R1.out.free 4
  have p5 := R1.out.cell 5 rfl
  have f5 := R1.out.free 5
  have p6 := R1.out.cell 6 rfl
  have f6 := R1.out.free 6
  have p7 := R1.out.cell 7 rfl
  have f7 := R1.out.free 7
  have p8 := R1.out.cell 8 rfl
  have f8 := R1.out.free 8
  have p9 := R1.out.cell 9 rfl
  have f9 := R1.out.free 9
  have lt := R1.out.lt
  go_wp2_with fail
  clear lt p0 f0 p1 f1 p2 f2 p3 f3 p4 f4 p5 f5 p6 f6 p7 f7 p8 f8 p9 f9
  have NN : Hid (_ ∧ _) := ten R1.out (.int .i64 2) (.slice none 0 0) (.slice none 0 0) (.slice none 0 0) (.slice none 0 0) (.slice none 0 0) (.slice none 0 0) (.int .i64 0) (.int .i64 0) (.int .i64 0)
  generalize ((((((((((w1.setCell ⟨s + 1, 0, none⟩ (.int .i64 2)).setCell ⟨s + 1, 1, none⟩ (.slice none 0 0)).setCell ⟨s + 1, 2, none⟩ (.slice none 0 0)).setCell ⟨s + 1, 3, none⟩ (.slice none 0 0)).setCell ⟨s + 1, 4, none⟩ (.slice none 0 0)).setCell ⟨s + 1, 5, none⟩ (.slice none 0 0)).setCell ⟨s + 1, 6, none⟩ (.slice none 0 0)).setCell ⟨s + 1, 7, none⟩ (.int .i64 0)).setCell ⟨s + 1, 8, none⟩ (.int .i64 0)).setCell ⟨s + 1, 9, none⟩ (.int .i64 0)) = W9 at *
  have x0 := NN.out.1.cell 0 rfl
  have x1 := NN.out.1.cell 1 rfl
  have x2 := NN.out.1.cell 2 rfl
  have x3 := NN.out.1.cell 3 rfl
  have x4 := NN.out.1.cell 4 rfl
  have x5 := NN.out.1.cell 5 rfl
  have x6 := NN.out.1.cell 6 rfl
  have x7 := NN.out.1.cell 7 rfl
  have x8 := NN.out.1.cell 8 rfl
  have x9 := NN.out.1.cell 9 rfl
  exact bodyPost_ret (v := .agg #[.int .i64 2, .slice none 0 0, .slice none 0 0, .slice none 0 0, .slice none 0 0, .slice none 0 0, .slice none 0 0, .int .i64 0, .int .i64 0, .int .i64 0]) (by simp [results, Tryz.results10, go_sem, x0, x1, x2, x3, x4, x5, x6, x7, x8, x9]) rfl ⟨_, _, _, _, _, _, rfl, ⟨[], [], ow_void _ _⟩, Mq.under B1.out NN.out.2 fun k e => by have := HSs.out; omega⟩
set_option maxRecDepth 20000 in
set_option maxHeartbeats 8000000 in
theorem itw_good (a0 a1 a2 a3 : Option Addr) (n0 c0 n1 c1 n2 c2 n3 c3 : Nat) (P : Plc) (ga il ic : Nat) (iss : List (List Int)) (gb jl jc : Nat) (jss : List (List Int)) (g : Nat) (ma : Option Addr) (ml mk : Nat) (im : List Int) (pa : Option Addr) (pl pk : Nat) (inp : List Int) (bi bj bm bp : Nat) (w : World) (h : Pl w a0 n0 c0 a1 n1 c1 a2 n2 c2 a3 n3 c3 P) (sm : Small n0 n1 n2 n3 P) (hi : SwN w bi (some ⟨ga, 0, none⟩) il ic iss) (hj : SwN w bj (some ⟨gb, 0, none⟩) jl jc jss) (hm : Nums w bm (.slice ma ml mk) im) (hp : Nums w bp (.slice pa pl pk) inp) (hil : il ≤ 1048576) (hjl : jl ≤ 1048576) (hg : w.cell? ⟨0, 0, none⟩ = some (.iface 165 (.agg #[.pointer (some ⟨1, 112, none⟩)]))) (hv : askV P (g : Int) = 0) (hl : iss.length = P.own.length ∧ jss.length = P.own.length) :
    Calls Tryz.prog 10 #[.agg #[.slice a0 n0 c0, .slice a1 n1 c1, .slice a2 n2 c2, .slice a3 n3 c3], .slice (some ⟨ga, 0, none⟩) il ic, .slice (some ⟨gb, 0, none⟩) jl jc, .int .i64 (g : Int), .slice ma ml mk, .slice pa pl pk] w fun e w' => ∃ v0 v1 v2 v3 v4 v5, e = .returned (.agg #[.int .i64 (twC P iss jss (g : Int) im inp), v0, v1, v2, v3, v4, v5, .int .i64 (twX P iss jss (g : Int) im inp).slot, .int .i64 (twX P iss jss (g : Int) im inp).left, .int .i64 (twX P iss jss (g : Int) im inp).clock]) ∧ OwE w' w.heap.size v0 v1 v2 v3 v4 v5 (twX P iss jss (g : Int) im inp) ∧ Below w.heap.size w w' := by
  have hk : twK P iss jss (g : Int) = 0 := by rw [twK, if_pos hv, if_pos hl]
  have hx : twC P iss jss (g : Int) im inp = bhC P (iss.set g im) (jss.set g inp) := by rw [twC, if_pos hk, Int.toNat_natCast]
  have hX : twX P iss jss (g : Int) im inp = bhX P (iss.set g im) (jss.set g inp) := by rw [twX, if_pos hk, Int.toNat_natCast]
  rw [hx, hX]
  obtain ⟨BC, hBC⟩ : ∃ c, bhC P (iss.set g im) (jss.set g inp) = c := ⟨_, rfl⟩
  obtain ⟨BX, hBX⟩ : ∃ c, bhX P (iss.set g im) (jss.set g inp) = c := ⟨_, rfl⟩
  have HBX : Hid (bhC P (iss.set g im) (jss.set g inp) = BC ∧ bhX P (iss.set g im) (jss.set g inp) = BX) := ⟨hBC, hBX⟩
  rw [hBC, hBX]
  have HV : Hid (askV P (g : Int) = 0) := hv
  have HL : Hid (iss.length = P.own.length ∧ jss.length = P.own.length) := hl
  have GL : Hid (g < P.own.length) := by obtain ⟨_, g', e, h'⟩ := tw_ask hv; show g < _; omega
  clear hx hv hl hk hX hBC hBX
  generalize hW : (w.alloc (.cells #[.slice a0 n0 c0, .slice a1 n1 c1, .slice a2 n2 c2, .slice a3 n3 c3] 35)).alloc (.cells #[.int .i64 0, .slice none 0 0, .slice none 0 0, .slice none 0 0, .slice none 0 0, .slice none 0 0, .slice none 0 0, .int .i64 0, .int .i64 0, .int .i64 0] 40) = W
  have B0 : Hid (Below w.heap.size w W) := by show Below _ _ _; rw [← hW]; exact al (al (Below.refl _ _) _) _
  obtain ⟨s, hS⟩ : ∃ s, w.heap.size = s := ⟨_, rfl⟩
  have HSs : Hid (w.heap.size = s) := hS
  have z1 : s + 1 = (w.alloc (.cells #[.slice a0 n0 c0, .slice a1 n1 c1, .slice a2 n2 c2, .slice a3 n3 c3] 35)).heap.size := by rw [← hS]; simp
  have Q : Hid (Vb W s #[.slice a0 n0 c0, .slice a1 n1 c1, .slice a2 n2 c2, .slice a3 n3 c3] 35) := by show Vb _ _ _ _; rw [← hW, ← hS]; exact (Vb.new _ _ _).push _
  have R : Hid (Vb W (s + 1) #[.int .i64 0, .slice none 0 0, .slice none 0 0, .slice none 0 0, .slice none 0 0, .slice none 0 0, .slice none 0 0, .int .i64 0, .int .i64 0, .int .i64 0] 40) := by show Vb _ _ _ _; rw [← hW, z1]; exact Vb.new _ _ _
  have ZW : Hid (s + 2 = W.heap.size) := by show _ = _; rw [← hW, ← hS]; simp
  clear z1
  have D : Hid (Pl W a0 n0 c0 a1 n1 c1 a2 n2 c2 a3 n3 c3 P) := h.stay B0.out
  have SMP : Hid (Small n0 n1 n2 n3 P) := sm
  have N0 : Hid (n0 = P.own.length) := h.own.len
  have NI : Hid (SwN W bi (some ⟨ga, 0, none⟩) il ic iss ∧ SwN W bj (some ⟨gb, 0, none⟩) jl jc jss) := ⟨hi.keep B0.out, hj.keep B0.out⟩
  have NM : Hid (Nums W bm (.slice ma ml mk) im ∧ Nums W bp (.slice pa pl pk) inp) := ⟨hm.keep B0.out, hp.keep B0.out⟩
  have IL : Hid (iss.length = il ∧ jss.length = jl ∧ il ≤ 1048576 ∧ jl ≤ 1048576) := ⟨hi.len.1, hj.len.1, hil, hjl⟩
  have HGE : Hid (_ = _) := cell_keep B0.out hg
  clear hg
  clear h hi hj sm hm hp hil hjl
  have q0 := Q.out.cell 0 rfl
  have q1 := Q.out.cell 1 rfl
  have q2 := Q.out.cell 2 rfl
  have q3 := Q.out.cell 3 rfl
  go_enter Tryz.func10, Tryz.ntmps10
  go_wp2_with fail
  clear hW hS q0 q1 q2 q3
  refine (i_asked _ _ _ _ _ _ _ _ _ _ _ _ P _ _ D.out HGE.out).mono ?_
  rw [HV.out]
  rintro e w1 ⟨rfl, b1'⟩
  have B1 : Hid (Below w.heap.size w w1) := on B0.out b1'
  have E1 : Hid (Below W.heap.size W w1) := b1'
  have R1 : Hid (Vb w1 (s + 1) #[.int .i64 0, .slice none 0 0, .slice none 0 0, .slice none 0 0, .slice none 0 0, .slice none 0 0, .slice none 0 0, .int .i64 0, .int .i64 0, .int .i64 0] 40) := R.out.keep b1'
  have Q1 : Hid (Vb w1 s #[.slice a0 n0 c0, .slice a1 n1 c1, .slice a2 n2 c2, .slice a3 n3 c3] 35) := Q.out.keep b1'
  clear b1'
  have hne : (il : Int) = (n0 : Int) := by have := HL.out.1; have := N0.out; have := IL.out.1; omega
  have hne2 : il = n0 := by omega
  have hnf : (jl : Int) = (n0 : Int) := by have := HL.out.2; have := N0.out; have := IL.out.2.1; omega
  have hnf2 : jl = n0 := by omega
  subst hne2
  subst hnf2
  clear hne hnf
  have i1 : (jl : Int) ≤ 9223372036854775807 := by have := IL.out.2.2.1; omega
  have q0 := Q1.out.cell 0 rfl
  have LT : Hid (s + 1 < w1.heap.size) := R1.out.lt
  have QL : Hid (∀ w', SvN 10 w1 (s + 1) w' → Vb w' s #[.slice a0 jl c0, .slice a1 n1 c1, .slice a2 n2 c2, .slice a3 n3 c3] 35) := fun w' hs => hs.1.vb Q1.out (by omega)
  have BS : Hid (∀ w', SvN 10 w1 (s + 1) w' → Below w.heap.size w w') := fun w' hs => Mq.under B1.out hs.1 fun k e => by have := HSs.out; omega
  have Sv0 : Hid (SvN 10 w1 (s + 1) w1.drew) := SvN.step ⟨Mq.refl _ _, R1.out.there 10 (by decide)⟩ LT.out (Below.refl _ _).drew
  have E0 : Hid (Below w1.heap.size w1 w1.drew) := (Below.refl _ _).drew
  go_upto_region 6 with fail
  clear q0
  refine wp_region_held (S := fun w' => SvN 10 w1 (s + 1) w') (by kernel_rfl) ?_
  change wpAnyH _ _ _ _ _ _ _ _ (World.drew _)
  generalize w1.drew = u0 at *
  refine wpAnyH_take (i := 0) (v := (.agg #[.slice a0 jl c0, .slice a1 n1 c1, .slice a2 n2 c2, .slice a3 n3 c3])) rfl (by kernel_rfl) (by kernel_rfl) (by kernel_rfl) (fun _ _ _ h => h) (Or.inl ⟨by rfl, fun w' hs => by have qv := QL.out w' hs; have y0 := qv.cell 0 rfl; have y1 := qv.cell 1 rfl; have y2 := qv.cell 2 rfl; have y3 := qv.cell 3 rfl; go_simp⟩) Sv0.out ?_
  change wpAnyH _ _ _ _ _ _ _ (Act.put _ (some 36) _) _
  simp only [Act.put, List.setIfInBounds_toArray, List.set_cons_zero, List.set_cons_succ]
  refine wpAnyH_take (i := 1) (v := (.slice (some ⟨ga, 0, none⟩) jl ic)) rfl (by kernel_rfl) (by kernel_rfl) (by kernel_rfl) (fun _ _ _ h => h) (Or.inl ⟨by rfl, fun w' hs => by go_simp⟩) Sv0.out ?_
  change wpAnyH _ _ _ _ _ _ _ (Act.put _ (some 37) _) _
  simp only [Act.put, List.setIfInBounds_toArray, List.set_cons_zero, List.set_cons_succ]
  refine wpAnyH_take (i := 2) (v := (.int .i64 (g : Int))) rfl (by kernel_rfl) (by kernel_rfl) (by kernel_rfl) (fun _ _ _ h => h) (Or.inl ⟨by rfl, fun w' hs => by go_simp⟩) Sv0.out ?_
  change wpAnyH _ _ _ _ _ _ _ (Act.put _ (some 38) _) _
  simp only [Act.put, List.setIfInBounds_toArray, List.set_cons_zero, List.set_cons_succ]
  refine wpAnyH_take (i := 3) (v := (.slice ma ml mk)) rfl (by kernel_rfl) (by kernel_rfl) (by kernel_rfl) (fun _ _ _ h => h) (Or.inl ⟨by rfl, fun w' hs => by go_simp⟩) Sv0.out ?_
  change wpAnyH _ _ _ _ _ _ _ (Act.put _ (some 39) _) _
  simp only [Act.put, List.setIfInBounds_toArray, List.set_cons_zero, List.set_cons_succ]
  refine wpAnyH_take (i := 5) (v := (.slice (some ⟨gb, 0, none⟩) jl jc)) rfl (by kernel_rfl) (by kernel_rfl) (by kernel_rfl) (fun _ _ _ h => h) (Or.inl ⟨by rfl, fun w' hs => by go_simp⟩) Sv0.out ?_
  change wpAnyH _ _ _ _ _ _ _ (Act.put _ (some 41) _) _
  simp only [Act.put, List.setIfInBounds_toArray, List.set_cons_zero, List.set_cons_succ]
  refine wpAnyH_take (i := 6) (v := (.int .i64 (g : Int))) rfl (by kernel_rfl) (by kernel_rfl) (by kernel_rfl) (fun _ _ _ h => h) (Or.inl ⟨by rfl, fun w' hs => by go_simp⟩) Sv0.out ?_
  change wpAnyH _ _ _ _ _ _ _ (Act.put _ (some 42) _) _
  simp only [Act.put, List.setIfInBounds_toArray, List.set_cons_zero, List.set_cons_succ]
  refine wpAnyH_take (i := 7) (v := (.slice pa pl pk)) rfl (by kernel_rfl) (by kernel_rfl) (by kernel_rfl) (fun _ _ _ h => h) (Or.inl ⟨by rfl, fun w' hs => by go_simp⟩) Sv0.out ?_
  change wpAnyH _ _ _ _ _ _ _ (Act.put _ (some 43) _) _
  simp only [Act.put, List.setIfInBounds_toArray, List.set_cons_zero, List.set_cons_succ]
  refine wpAnyH_ready (rs := [4]) (by kernel_rfl) (by simp) ?_
  refine AllReadyH.cons rfl (fun K hK => ?_) AllReadyH.nil
  rw [if_pos (by rfl)]
  go_simp
  refine (i_listAt ga jl ic iss g ma ml mk im bi bm _ ((NI.out.1.keep E1.out).keep E0.out) (by have := GL.out; have := N0.out; omega) IL.out.2.2.1 ((NM.out.1.keep E1.out).keep E0.out)).mono ?_
  rintro e u1 ⟨ra, rk, rfl, s1, b1⟩
  have S1 : Hid (SwN u1 0 (some ⟨ra, 0, none⟩) jl rk (iss.set g im)) := s1
  have F1 : Hid (Below w1.heap.size w1 u1) := on E0.out b1
  have Sv1 : Hid (SvN 10 w1 (s + 1) u1) := Sv0.out.step LT.out b1
  clear s1 b1
  refine hK.out _ _ Sv1.out (fun _ => ?_)
  clear hK K
  refine wpAnyH_ready (rs := [8]) (by kernel_rfl) (by simp) ?_
  refine AllReadyH.cons rfl (fun K hK => ?_) AllReadyH.nil
  rw [if_pos (by rfl)]
  go_simp
  refine (i_listAt gb jl jc jss g pa pl pk inp bj bp _ ((NI.out.2.keep E1.out).keep F1.out) (by have := GL.out; have := N0.out; omega) IL.out.2.2.2 ((NM.out.2.keep E1.out).keep F1.out)).mono ?_
  rintro e u2 ⟨rb, rl, rfl, s2, b2⟩
  have S2 : Hid (SwN u2 0 (some ⟨rb, 0, none⟩) jl rl (jss.set g inp)) := s2
  replace S1 : Hid (SwN u2 0 (some ⟨ra, 0, none⟩) jl rk (iss.set g im)) := S1.out.keep b2
  have F2 : Hid (Below w1.heap.size w1 u2) := on F1.out b2
  have Sv2 : Hid (SvN 10 w1 (s + 1) u2) := Sv1.out.step LT.out b2
  clear s2 b2
  refine hK.out _ _ Sv2.out (fun _ => ?_)
  clear hK K
  refine wpAnyH_ready (rs := [9]) (by kernel_rfl) (by simp) ?_
  refine AllReadyH.cons rfl (fun K hK => ?_) AllReadyH.nil
  rw [if_pos (by rfl)]
  go_simp
  have CALL := i_bootHost _ _ _ _ _ _ _ _ _ _ _ _ P _ _ _ (iss.set g im) _ _ _ (jss.set g inp) 0 u2 ((D.out.stay E1.out).stay F2.out) SMP.out S1.out.read S2.out (cell_keep F2.out (cell_keep E1.out HGE.out))
  rw [HBX.out.1, HBX.out.2] at CALL
  refine CALL.mono ?_
  clear CALL
  rintro e u3 ⟨_, _, _, _, _, _, rfl, ow, b3⟩
  obtain ⟨v0, v1, v2, v3, v4, v5, k0, k1, k2, k3, k4, k5, m0, m1, m2, m3, m4, m5, e0, e1, e2, e3, e4, e5⟩ := owe_shapes ow
  subst e0 e1 e2 e3 e4 e5
  have OW : Hid (OwE u3 u2.heap.size (.slice v0 m0 k0) (.slice v1 m1 k1) (.slice v2 m2 k2) (.slice v3 m3 k3) (.slice v4 m4 k4) (.slice v5 m5 k5) BX) := ow
  have Sv3 : Hid (SvN 10 w1 (s + 1) u3) := Sv2.out.step LT.out b3
  have Z3 : Hid (s + 2 ≤ u2.heap.size) := by have := ZW.out; have := E1.out.size; have := F2.out.size; show _ ≤ _; omega
  obtain ⟨sl, hsl⟩ : ∃ z, BX.slot = z := ⟨_, rfl⟩
  obtain ⟨le, hle⟩ : ∃ z, BX.left = z := ⟨_, rfl⟩
  obtain ⟨cl, hcl⟩ : ∃ z, BX.clock = z := ⟨_, rfl⟩
  have HSL : Hid (BX.slot = sl ∧ BX.left = le ∧ BX.clock = cl) := ⟨hsl, hle, hcl⟩
  rw [hsl, hle, hcl]
  clear ow b3 hsl hle hcl
  refine hK.out _ _ Sv3.out (fun _ => ?_)
  clear hK K
  refine wpAnyH_ready (rs := [10]) (by kernel_rfl) (by simp) ?_
  refine AllReadyH.cons rfl (fun K hK => ?_) AllReadyH.nil
  rw [if_pos (by rfl)]
  refine wp_store_mid 40 (.tmp 12) (.tmp 45) rfl (s + 1) 0 #[.int .i64 BC, .slice v0 m0 k0, .slice v1 m1 k1, .slice v2 m2 k2, .slice v3 m3 k3, .slice v4 m4 k4, .slice v5 m5 k5, .int .i64 sl, .int .i64 le, .int .i64 cl] rfl rfl Sv3.out.2 (by kernel_rfl) (by simp [Value.oneCell']) ?_
  change K (Act.put _ none undef) _
  simp only [Act.put]
  have S6 : Hid (SvN 10 w1 (s + 1) (u3.setCells (s + 1) 0 #[.int .i64 BC, .slice v0 m0 k0, .slice v1 m1 k1, .slice v2 m2 k2, .slice v3 m3 k3, .slice v4 m4 k4, .slice v5 m5 k5, .int .i64 sl, .int .i64 le, .int .i64 cl].toList)) := Sv3.out.set _
  have R6 : Hid ((u3.setCells (s + 1) 0 #[.int .i64 BC, .slice v0 m0 k0, .slice v1 m1 k1, .slice v2 m2 k2, .slice v3 m3 k3, .slice v4 m4 k4, .slice v5 m5 k5, .int .i64 sl, .int .i64 le, .int .i64 cl].toList).rangeAt (s + 1) 0 #[.int .i64 BC, .slice v0 m0 k0, .slice v1 m1 k1, .slice v2 m2 k2, .slice v3 m3 k3, .slice v4 m4 k4, .slice v5 m5 k5, .int .i64 sl, .int .i64 le, .int .i64 cl].toList) := World.rangeAt_setCells_same _ _ _ _ Sv3.out.2
  have Q6 : Hid (Mq (fun k => k = s + 1) u3 (u3.setCells (s + 1) 0 #[.int .i64 BC, .slice v0 m0 k0, .slice v1 m1 k1, .slice v2 m2 k2, .slice v3 m3 k3, .slice v4 m4 k4, .slice v5 m5 k5, .int .i64 sl, .int .i64 le, .int .i64 cl].toList)) := mq_cells (s + 1) _ u3 0
  generalize u3.setCells (s + 1) 0 #[.int .i64 BC, .slice v0 m0 k0, .slice v1 m1 k1, .slice v2 m2 k2, .slice v3 m3 k3, .slice v4 m4 k4, .slice v5 m5 k5, .int .i64 sl, .int .i64 le, .int .i64 cl].toList = u6 at *
  refine hK.out _ _ S6.out (fun _ => ?_)
  clear hK K
  refine wpAnyH_done (by kernel_rfl) ?_ _
  have O6 : Ho (s + 2) u3 u6 := Q6.out.ho fun k e => by omega
  have F : Hid (OwE u6 w.heap.size (.slice v0 m0 k0) (.slice v1 m1 k1) (.slice v2 m2 k2) (.slice v3 m3 k3) (.slice v4 m4 k4) (.slice v5 m5 k5) BX) := by
    obtain ⟨xs, qs, ho⟩ := OW.out
    exact ⟨xs, qs, ((ho.mono Z3.out).ho O6).mono (by have := HSs.out; omega)⟩
  have B6 : Hid (Below w.heap.size w u6) := BS.out _ S6.out
  have LD := run_loadVar_mid (P := Tryz.prog) u6 (s + 1) 0 40 #[.int .i64 BC, .slice v0 m0 k0, .slice v1 m1 k1, .slice v2 m2 k2, .slice v3 m3 k3, .slice v4 m4 k4, .slice v5 m5 k5, .int .i64 sl, .int .i64 le, .int .i64 cl].toList _ R6.out Tryz.underlying40 rfl (by kernel_rfl)
  go_wp2_with fail
  exact bodyPost_ret (v := .agg #[.int .i64 BC, .slice v0 m0 k0, .slice v1 m1 k1, .slice v2 m2 k2, .slice v3 m3 k3, .slice v4 m4 k4, .slice v5 m5 k5, .int .i64 sl, .int .i64 le, .int .i64 cl]) (by simp [results, Tryz.results10, asAddr]; rw [LD]) rfl ⟨_, _, _, _, _, _, by rw [HSL.out.1, HSL.out.2.1, HSL.out.2.2], F.out, B6.out⟩
theorem i_twinHost (a0 a1 a2 a3 : Option Addr) (n0 c0 n1 c1 n2 c2 n3 c3 : Nat) (P : Plc) (ga il ic : Nat) (iss : List (List Int)) (gb jl jc : Nat) (jss : List (List Int)) (gu : Int) (ma : Option Addr) (ml mk : Nat) (im : List Int) (pa : Option Addr) (pl pk : Nat) (inp : List Int) (bi bj bm bp : Nat) (w : World) (h : Pl w a0 n0 c0 a1 n1 c1 a2 n2 c2 a3 n3 c3 P) (sm : Small n0 n1 n2 n3 P) (hi : SwN w bi (some ⟨ga, 0, none⟩) il ic iss) (hj : SwN w bj (some ⟨gb, 0, none⟩) jl jc jss) (hm : Nums w bm (.slice ma ml mk) im) (hp : Nums w bp (.slice pa pl pk) inp) (hil : il ≤ 1048576) (hjl : jl ≤ 1048576) (hg : w.cell? ⟨0, 0, none⟩ = some (.iface 165 (.agg #[.pointer (some ⟨1, 112, none⟩)]))) :
    Calls Tryz.prog 10 #[.agg #[.slice a0 n0 c0, .slice a1 n1 c1, .slice a2 n2 c2, .slice a3 n3 c3], .slice (some ⟨ga, 0, none⟩) il ic, .slice (some ⟨gb, 0, none⟩) jl jc, .int .i64 gu, .slice ma ml mk, .slice pa pl pk] w fun e w' => ∃ v0 v1 v2 v3 v4 v5, e = .returned (.agg #[.int .i64 (twC P iss jss gu im inp), v0, v1, v2, v3, v4, v5, .int .i64 (twX P iss jss gu im inp).slot, .int .i64 (twX P iss jss gu im inp).left, .int .i64 (twX P iss jss gu im inp).clock]) ∧ OwE w' w.heap.size v0 v1 v2 v3 v4 v5 (twX P iss jss gu im inp) ∧ Below w.heap.size w w' := by
  by_cases hv : askV P gu = 0
  · by_cases h1 : iss.length = P.own.length
    · by_cases h2 : jss.length = P.own.length
      · obtain ⟨_, g, rfl, _⟩ := tw_ask hv
        exact itw_good _ _ _ _ _ _ _ _ _ _ _ _ P _ _ _ iss _ _ _ jss g _ _ _ im _ _ _ inp bi bj bm bp w h sm hi hj hm hp hil hjl hg hv ⟨h1, h2⟩
      · exact itw_many2 _ _ _ _ _ _ _ _ _ _ _ _ P _ _ _ iss _ _ _ jss gu _ _ _ im _ _ _ inp bi bj bm bp w h sm hi hj hm hp hil hjl hg hv ⟨h1, h2⟩
    · exact itw_many1 _ _ _ _ _ _ _ _ _ _ _ _ P _ _ _ iss _ _ _ jss gu _ _ _ im _ _ _ inp bi bj bm bp w h sm hi hj hm hp hil hjl hg hv h1
  · exact itw_fault _ _ _ _ _ _ _ _ _ _ _ _ P _ _ _ iss _ _ _ jss gu _ _ _ im _ _ _ inp bi bj bm bp w h sm hi hj hm hp hil hjl hg hv
end Go.Proofs.YtmgninipaigjfaaGreatDoor
