/- FillCache by the model, and what a law keeps of answers. -/
import Derived.Test.YteaccakodaidpaaFis
namespace Go.Proofs.Yteaccakodaidpaa
open Go.RowKit
set_option linter.unusedVariables false

/-- An answer that is read alone. -/
structure Rd (w : World) (R : Nat) (c v : Int) (f : Bool) (s : Value) : Prop where
  r0 : w.cell? ⟨R, 0, none⟩ = some (.int .i64 c)
  r1 : w.cell? ⟨R, 1, none⟩ = some (.int .i64 v)
  r2 : w.cell? ⟨R, 2, none⟩ = some (.bool f)
  r3 : w.cell? ⟨R, 3, none⟩ = some s
theorem Rd.lt {w : World} {R : Nat} {c v : Int} {f : Bool} {s : Value} (h : Rd w R c v f s) : R < w.heap.size := block_of_cell h.r0
theorem Rd.keep {w w' : World} {R : Nat} {c v : Int} {f : Bool} {s : Value} (h : Rd w R c v f s) (hb : Below w.heap.size w w') : Rd w' R c v f s := ⟨cell_keep hb h.r0, cell_keep hb h.r1, cell_keep hb h.r2, cell_keep hb h.r3⟩
theorem Rd.grown {w w' : World} {R : Nat} {c v : Int} {f : Bool} {s : Value} {row : Option Nat} (h : Rd w R c v f s) (hg : w.grownBy w' row) (hn : some R ≠ row) : Rd w' R c v f s := by
  have hh : ∀ i, w'.cell? ⟨R, i, none⟩ = w.cell? ⟨R, i, none⟩ := fun i => World.cell?_of_block (w := w) (hg.block R h.lt hn)
  exact ⟨(hh 0).trans h.r0, (hh 1).trans h.r1, (hh 2).trans h.r2, (hh 3).trans h.r3⟩
theorem Rd.new (w : World) (c v : Int) (f : Bool) (s : Value) : Rd (w.alloc (.cells #[.int .i64 c, .int .i64 v, .bool f, s] 30)) w.heap.size c v f s := ⟨cell_new rfl, cell_new rfl, cell_new rfl, cell_new rfl⟩
/-- A hit that is read alone. -/
structure Rh (w : World) (R : Nat) (q : Qd) : Prop where
  h0 : w.cell? ⟨R, 0, none⟩ = some (.int .i64 q.tag)
  h1 : w.cell? ⟨R, 1, none⟩ = some (.int .i64 q.page)
  h2 : w.cell? ⟨R, 2, none⟩ = some (.int .i64 q.to)
  h3 : w.cell? ⟨R, 3, none⟩ = some (.int .i64 q.kinds)
theorem Rh.lt {w : World} {R : Nat} {q : Qd} (h : Rh w R q) : R < w.heap.size := block_of_cell h.h0
theorem Rh.keep {w w' : World} {R : Nat} {q : Qd} (h : Rh w R q) (hb : Below w.heap.size w w') : Rh w' R q := ⟨cell_keep hb h.h0, cell_keep hb h.h1, cell_keep hb h.h2, cell_keep hb h.h3⟩
theorem Rh.grown {w w' : World} {R : Nat} {q : Qd} {row : Option Nat} (h : Rh w R q) (hg : w.grownBy w' row) (hn : some R ≠ row) : Rh w' R q := by
  have hh : ∀ i, w'.cell? ⟨R, i, none⟩ = w.cell? ⟨R, i, none⟩ := fun i => World.cell?_of_block (w := w) (hg.block R h.lt hn)
  exact ⟨(hh 0).trans h.h0, (hh 1).trans h.h1, (hh 2).trans h.h2, (hh 3).trans h.h3⟩

/-- What a law keeps: the model's answer at A, the program's at G, the argument x, and that all lie apart (the first below M, the argument below N, the third from N on). -/
structure Ev (W u : World) (A G M N : Nat) (c : Int) (v0 v1 x : Value) (Z Y rs : List Qd) (b0 b1 bx : Nat) : Prop where
  ra : Rd u A c 0 false v0
  rg : Rd u G c 0 false v1
  n0 : Qs 26 u b0 v0 Z
  n1 : Qs 26 u b1 v1 Y
  nx : Qs 26 u bx x rs
  bl : Below W.heap.size W u
  kW : W.heap.size ≤ M
  kM : M ≤ N
  kA : A < M
  k0 : ∀ k, v0.ownBlock = some k → k < M
  kx : M ≤ bx
  lx : ∀ k, x.ownBlock = some k → k < N
  k1 : N ≤ b1
  kG : N ≤ G
  nG : v1.ownBlock ≠ some G
theorem Ev.keep {W u u' : World} {A G M N : Nat} {c : Int} {v0 v1 x : Value} {Z Y rs : List Qd} {b0 b1 bx : Nat} (h : Ev W u A G M N c v0 v1 x Z Y rs b0 b1 bx) (hb : Below u.heap.size u u') : Ev W u' A G M N c v0 v1 x Z Y rs b0 b1 bx :=
  ⟨h.ra.keep hb, h.rg.keep hb, h.n0.keep hb, h.n1.keep hb, h.nx.keep hb, on h.bl hb, h.kW, h.kM, h.kA, h.k0, h.kx, h.lx, h.k1, h.kG, h.nG⟩
/-- The argument is written into. -/
theorem Ev.markX {W u u' : World} {A G M N : Nat} {c : Int} {v0 v1 x : Value} {Z Y rs ys : List Qd} {b0 b1 bx : Nat} (h : Ev W u A G M N c v0 v1 x Z Y rs b0 b1 bx) (hg : u.grownBy u' x.ownBlock) (hq : Qs 26 u' bx x ys) : Ev W u' A G M N c v0 v1 x Z Y ys b0 b1 bx := by
  have q1 := h.kA
  have q2 := h.kx
  have q3 := h.k1
  have q4 := h.kG
  have q5 := h.kM
  refine ⟨h.ra.grown hg fun e => ?_, h.rg.grown hg fun e => ?_, h.n0.kept hg ?_, h.n1.kept hg ?_, hq, h.bl.grown hg h.bl.size fun k e => ?_, h.kW, h.kM, h.kA, h.k0, h.kx, h.lx, h.k1, h.kG, h.nG⟩
  · have := (h.nx.lt _ e.symm).1; omega
  · have := h.lx _ e.symm; omega
  · cases e0 : v0.ownBlock with
    | none => exact .inl rfl
    | some k => refine .inr fun e => ?_; have := h.k0 k e0; have := (h.nx.lt k e.symm).1; omega
  · cases e1 : v1.ownBlock with
    | none => exact .inl rfl
    | some k => refine .inr fun e => ?_; have := (h.n1.lt k e1).1; have := h.lx k e.symm; omega
  · have := (h.nx.lt k e).1; have := h.kW; omega
/-- The program's answer is written into. -/
theorem Ev.mark1 {W u u' : World} {A G M N : Nat} {c : Int} {v0 v1 x : Value} {Z Y rs ys : List Qd} {b0 b1 bx : Nat} (h : Ev W u A G M N c v0 v1 x Z Y rs b0 b1 bx) (hg : u.grownBy u' v1.ownBlock) (hq : Qs 26 u' b1 v1 ys) : Ev W u' A G M N c v0 v1 x Z ys rs b0 b1 bx := by
  have q1 := h.kA
  have q2 := h.kx
  have q3 := h.k1
  have q4 := h.kG
  have q5 := h.kM
  refine ⟨h.ra.grown hg fun e => ?_, h.rg.grown hg fun e => h.nG e.symm, h.n0.kept hg ?_, hq, h.nx.kept hg ?_, h.bl.grown hg h.bl.size fun k e => ?_, h.kW, h.kM, h.kA, h.k0, h.kx, h.lx, h.k1, h.kG, h.nG⟩
  · have := (h.n1.lt _ e.symm).1; omega
  · cases e0 : v0.ownBlock with
    | none => exact .inl rfl
    | some k => refine .inr fun e => ?_; have := h.k0 k e0; have := (h.n1.lt k e.symm).1; omega
  · cases e1 : x.ownBlock with
    | none => exact .inl rfl
    | some k => refine .inr fun e => ?_; have := h.lx k e1; have := (h.n1.lt k e.symm).1; omega
  · have := (h.n1.lt k e).1; have := h.kW; omega

set_option maxRecDepth 100000 in
set_option maxHeartbeats 2000000 in
theorem spec_fillCache (a : Option Addr) (len cap : Nat) (rs : List Qd) (q : Qd) (w : World) (h : IsQuads w a len cap rs) :
    Calls Try.prog 12 #[.slice a len cap, q.val] w fun e w' => ∃ v, e = .returned (.agg #[.int .i64 (fcC rs q), .int .i64 0, .bool false, v]) ∧ Qs 26 w' w.heap.size v (fcL rs q) ∧ Below w.heap.size w w' := by
  have hF := fun u (z : Below w.heap.size w u) => spec_cacheFault a len cap rs u (h.stay z)
  have hFill := fun u (z : Below w.heap.size w u) (hc : cfV rs = 0) => spec_fill a len cap rs q u (h.stay z) hc
  have hH := spec_hit q
  clear h
  obtain ⟨W0, hW0⟩ : ∃ W0, (w.alloc (.cells #[.int .i64 q.tag, .int .i64 q.page, .int .i64 q.to, .int .i64 q.kinds] 26)).alloc (.cells #[.int .i64 0, .int .i64 0, .bool false, .slice none 0 0] 30) = W0 := ⟨_, rfl⟩
  have b0 : Below w.heap.size w W0 := by rw [← hW0]; exact al (al (Below.refl _ _) _) _
  have R0 : Rc W0 (w.heap.size + 1) 0 0 false (.slice none 0 0) := by
    have := Rc.made (w.alloc (.cells #[.int .i64 q.tag, .int .i64 q.page, .int .i64 q.to, .int .i64 q.kinds] 26))
    rw [World.size_alloc, hW0] at this
    exact this
  have q0 : W0.cell? ⟨w.heap.size, 0, none⟩ = some (.int .i64 q.tag) := by rw [← hW0]; exact cell_push _ (cell_new rfl)
  have q1 : W0.cell? ⟨w.heap.size, 1, none⟩ = some (.int .i64 q.page) := by rw [← hW0]; exact cell_push _ (cell_new rfl)
  have q2 : W0.cell? ⟨w.heap.size, 2, none⟩ = some (.int .i64 q.to) := by rw [← hW0]; exact cell_push _ (cell_new rfl)
  have q3 : W0.cell? ⟨w.heap.size, 3, none⟩ = some (.int .i64 q.kinds) := by rw [← hW0]; exact cell_push _ (cell_new rfl)
  have HW0 : Hid ((w.alloc (.cells #[.int .i64 q.tag, .int .i64 q.page, .int .i64 q.to, .int .i64 q.kinds] 26)).alloc (.cells #[.int .i64 0, .int .i64 0, .bool false, .slice none 0 0] 30) = W0) := hW0
  have B0 : Hid (Below w.heap.size w W0) := b0
  have HF := hF W0 b0
  have HR0 : Hid (Rc W0 (w.heap.size + 1) 0 0 false (.slice none 0 0)) := R0
  clear hW0 b0 hF R0
  unfold Qd.val at hH hFill ⊢
  by_cases hc : cfV rs = 0
  case neg =>
    have e1 : fcC rs q = cfV rs := if_neg hc
    have e2 : fcL rs q = [] := if_neg (by rw [e1]; exact hc)
    rw [e1, e2]
    have g : (cfV rs != 0) = true := by simpa using hc
    clear e1 e2 hc hH q0 q1 q2 q3 hFill
    generalize cfV rs = c at *
    go_enter Try.func12, Try.ntmps12
    go_wp2_with fail
    rw [HW0.out]
    refine HF.mono ?_
    rintro e w1 ⟨rfl, b1⟩
    obtain ⟨r0, r1, r2, r3, f0, f1, f2, f3⟩ := HR0.out.keep b1
    have B1 : Hid (Below w.heap.size w w1) := on B0.out b1
    clear b1 HF
    go_wp2_with fail
    exact bodyPost_ret (v := .agg #[.int .i64 c, .int .i64 0, .bool false, .slice none 0 0]) (by simp [results, Try.results12, go_sem, r0, r1, r2, r3]) rfl ⟨_, rfl, Qs.nil _ _ _, (((B1.out.setCell (by simp) _).setCell (by simp) _).setCell (by simp) _).setCell (by simp) _⟩
  have HC : Hid (cfV rs = 0) := hc
  have e1 : fcC rs q = hfV q := if_pos hc
  rw [hc] at HF
  cases hq : okQ q
  · have e3 : hfV q = 3 := by simp [hfV, hq]
    have e2 : fcL rs q = [] := if_neg (by rw [e1, e3]; decide)
    rw [e1, e2, e3]
    rw [hq] at hH
    clear e1 e2 e3 hc hFill
    go_enter Try.func12, Try.ntmps12
    go_wp2_with fail
    rw [HW0.out]
    refine HF.mono ?_
    rintro e w1 ⟨rfl, b1⟩
    have q0 := cell_keep b1 q0
    have q1 := cell_keep b1 q1
    have q2 := cell_keep b1 q2
    have q3 := cell_keep b1 q3
    have HR1 : Hid (Rc w1 (w.heap.size + 1) 0 0 false (.slice none 0 0)) := HR0.out.keep b1
    have B1 : Hid (Below w.heap.size w w1) := on B0.out b1
    clear b1 HF
    go_wp2_with fail
    refine (hH _).mono ?_
    rintro e w2 ⟨rfl, b2⟩
    obtain ⟨r0, r1, r2, r3, f0, f1, f2, f3⟩ := HR1.out.keep b2
    have B2 : Hid (Below w.heap.size w w2) := on B1.out b2
    clear b2
    go_wp2_with fail
    exact bodyPost_ret (v := .agg #[.int .i64 3, .int .i64 0, .bool false, .slice none 0 0]) (by simp [results, Try.results12, go_sem, r0, r1, r2, r3]) rfl ⟨_, rfl, Qs.nil _ _ _, (((B2.out.setCell (by simp) _).setCell (by simp) _).setCell (by simp) _).setCell (by simp) _⟩
  have e3 : hfV q = 0 := by simp [hfV, hq]
  have e2 : fcL rs q = fillQ rs q := if_pos (by rw [e1, e3])
  rw [e1, e2, e3]
  rw [hq] at hH
  clear e1 e2 e3 hc hq
  go_enter Try.func12, Try.ntmps12
  go_wp2_with fail
  rw [HW0.out]
  refine HF.mono ?_
  rintro e w1 ⟨rfl, b1⟩
  have q0 := cell_keep b1 q0
  have q1 := cell_keep b1 q1
  have q2 := cell_keep b1 q2
  have q3 := cell_keep b1 q3
  have HR1 : Hid (Rc w1 (w.heap.size + 1) 0 0 false (.slice none 0 0)) := HR0.out.keep b1
  have B1 : Hid (Below w.heap.size w w1) := on B0.out b1
  clear b1 HF
  go_wp2_with fail
  refine (hH _).mono ?_
  rintro e w2 ⟨rfl, b2⟩
  have q0 := cell_keep b2 q0
  have q1 := cell_keep b2 q1
  have q2 := cell_keep b2 q2
  have q3 := cell_keep b2 q3
  have HR2 : Hid (Rc w2 (w.heap.size + 1) 0 0 false (.slice none 0 0)) := HR1.out.keep b2
  have B2 : Hid (Below w.heap.size w w2) := on B1.out b2
  have HF3 := hFill w2 B2.out HC.out
  have HSZ : Hid (w.heap.size + 1 < w2.heap.size) := HR2.out.lt
  clear b2
  go_wp2_with fail
  refine HF3.mono ?_
  rintro e w4 ⟨v4, rfl, n4, b4⟩
  obtain ⟨r0, r1, r2, r3, f0, f1, f2, f3⟩ := HR2.out.keep b4
  have N4 : Hid (Qs 26 w4 w2.heap.size v4 (fillQ rs q)) := n4
  have B4 : Hid (Below w.heap.size w w4) := on B2.out b4
  obtain ⟨qa, qc, rfl, _, _, _⟩ := n4.shape
  clear b4 HF3 n4 q0 q1 q2 q3
  go_wp2_with fail
  refine bodyPost_ret (v := .agg #[.int .i64 0, .int .i64 0, .bool false, .slice qa (fillQ rs q).length qc]) (by simp [results, Try.results12, go_sem, r0, r1, r2, r3]) rfl ⟨_, rfl, ?_, (((B4.out.setCell (by simp) _).setCell (by simp) _).setCell (by simp) _).setCell (by simp) _⟩
  have hnb : (Value.slice qa (fillQ rs q).length qc).ownBlock ≠ some (w.heap.size + 1) := fun e => qown_not N4.out (w.heap.size + 1) (.inl HSZ.out) e.symm
  exact (((((N4.out.put _ _ hnb).put _ _ hnb).put _ _ hnb).put _ _ hnb).mono (by have := HSZ.out; omega))
theorem fcL_len (rs : List Qd) (q : Qd) : (fcL rs q).length ≤ 13 := by
  unfold fcL
  split
  · next h =>
    by_cases hc : cfV rs = 0
    · have := (cfV_apart hc).2
      rw [← skp_goAt rs q hc, List.length_append]
      have := skp_len (goAt rs q) rs 0
      simp
      omega
    · unfold fcC at h
      rw [if_neg hc] at h
      exact absurd h hc
  · simp
end Go.Proofs.Yteaccakodaidpaa
