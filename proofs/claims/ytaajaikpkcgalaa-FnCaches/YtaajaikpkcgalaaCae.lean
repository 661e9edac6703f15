/- Caches that are drawn. -/
import Derived.Test.YtaajaikpkcgalaaCad
import Derived.Test.YtaajaikpkcgalaaHnm
import Derived.Deep.RegionHeld3
namespace Go.Proofs.Ytaajaikpkcgalaa
open Go.RowKit
set_option linter.unusedVariables false

/-- A cache under way: its list y, the pages, the source b; from the world w0 on. -/
structure Dq (w0 v : World) (b k : Nat) (a : Option Addr) (len cap : Nat) (zs : List Int) (base g lc : Nat) (ps : List (Int × Int)) (y : Value) (rs : List Qd) : Prop where
  src : Src v b k a len cap zs
  pp : Prs 51 v base (.slice (some ⟨g, 0, none⟩) 8 lc) ps
  qq : Qs 65 v w0.heap.size y rs
  tn : Turn b w0 v
  hb : b < base
  hB : b < w0.heap.size
  hp : g < w0.heap.size
theorem Dq.turn {w0 v v' : World} {b k k' : Nat} {a : Option Addr} {len cap : Nat} {zs : List Int} {base g lc : Nat} {ps : List (Int × Int)} {y : Value} {rs : List Qd} (h : Dq w0 v b k a len cap zs base g lc ps y rs) (t : Turn b v v') (s : Src v' b k' a len cap zs) : Dq w0 v' b k' a len cap zs base g lc ps y rs :=
  ⟨s, h.pp.turn t h.hb, h.qq.turn t h.hB, h.tn.trans t, h.hb, h.hB, h.hp⟩
theorem Dq.put {w0 v : World} {b k : Nat} {a : Option Addr} {len cap : Nat} {zs : List Int} {base g lc : Nat} {ps : List (Int × Int)} {y y' : Value} {rs rs' : List Qd} (h : Dq w0 v b k a len cap zs base g lc ps y rs) (q : Qs 65 v w0.heap.size y' rs') : Dq w0 v b k a len cap zs base g lc ps y' rs' :=
  ⟨h.src, h.pp, q, h.tn, h.hb, h.hB, h.hp⟩
/-- A cell of a block behind w0 that is neither the pages' nor the list's turns. -/
theorem Dq.set {w0 v : World} {b k : Nat} {a : Option Addr} {len cap : Nat} {zs : List Int} {base g lc : Nat} {ps : List (Int × Int)} {y : Value} {rs : List Qd} (h : Dq w0 v b k a len cap zs base g lc ps y rs) (N o : Nat) (u : Value) (hN : w0.heap.size ≤ N) (hy : y.ownBlock ≠ some N) : Dq w0 (v.setCell ⟨N, o, none⟩ u) b k a len cap zs base g lc ps y rs := by
  have hB := h.hB; have hp := h.hp
  have gr := grown_set v ⟨N, o, none⟩ u
  have hn : ∀ x, x < w0.heap.size → some x ≠ some N := fun x hx e => by have := Option.some.inj e; omega
  have ss : Src (v.setCell ⟨N, o, none⟩ u) b k a len cap zs := by
    have s := h.src
    refine ⟨cell_grown gr s.code (hn b hB), cell_grown gr s.count (hn b hB), ?_, ?_, s.away, Nat.lt_of_lt_of_le s.here gr.size⟩
    · rw [World.frozen?_of_block (w := v) (gr.block b s.here (hn b hB))]; exact s.free
    · rcases s.row with h0 | ⟨x, rfl, q1, q2, q3, q4, q5⟩
      · exact .inl h0
      · refine .inr ⟨x, rfl, q1, q2, q3, fun j hj => cell_grown gr (q4 j hj) (hn _ ?_), q5⟩
        have hx := s.away x rfl (by omega)
        rw [src_block]
        omega
  refine ⟨ss, h.pp.kept gr (.inr (fun e => ?_)), h.qq.kept gr (.inr hy), ⟨h.tn.os, h.tn.tape, h.tn.output, Nat.le_trans h.tn.size gr.size, fun x hx hxb => (gr.block x (Nat.lt_of_lt_of_le hx h.tn.size) (hn x hx)).trans (h.tn.block x hx hxb)⟩, h.hb, h.hB, h.hp⟩
  have : g = N := by simpa [Value.ownBlock] using e
  omega
theorem srcq_put {w : World} {b k : Nat} {a : Option Addr} {len cap : Nat} {zs : List Int} (s : Src w b k a len cap zs) (p : Addr) (u : Value) (hp : b < p.block) : Src (w.setCell p u) b k a len cap zs := by
  have g := grown_set w p u
  have hn : ∀ x, x ≤ b → some x ≠ some p.block := fun x hx e => by have := Option.some.inj e; omega
  refine ⟨cell_grown g s.code (hn b (Nat.le_refl _)), cell_grown g s.count (hn b (Nat.le_refl _)), ?_, ?_, s.away, Nat.lt_of_lt_of_le s.here g.size⟩
  · rw [World.frozen?_of_block (w := w) (g.block b s.here (hn b (Nat.le_refl _)))]; exact s.free
  · rcases s.row with h0 | ⟨x, rfl, q1, q2, q3, q4, q5⟩
    · exact .inl h0
    · refine .inr ⟨x, rfl, q1, q2, q3, fun j hj => cell_grown g (q4 j hj) (hn _ ?_), q5⟩
      have hx := s.away x rfl (by omega)
      rw [src_block]
      omega
theorem turnq_put {b : Nat} {a w : World} (t : Turn b a w) (p : Addr) (u : Value) (hp : a.heap.size ≤ p.block) : Turn b a (w.setCell p u) :=
  ⟨t.os, t.tape, t.output, Nat.le_trans t.size (grown_set w p u).size, fun k hk hn => by rw [heap_setCell_other w p k u (by omega)]; exact t.block k hk hn⟩
theorem turnq_grown {b : Nat} {a w w' : World} {row : Option Nat} (t : Turn b a w) (g : w.grownBy w' row) (h : ∀ k, row = some k → a.heap.size ≤ k) : Turn b a w' :=
  ⟨g.os.trans t.os, g.tape.trans t.tape, g.output.trans t.output, Nat.le_trans t.size g.size, fun k hk hn => (g.block k (Nat.lt_of_lt_of_le hk t.size) (fun e => by have := h k e.symm; omega)).trans (t.block k hk hn)⟩
theorem srcq_grown {w w' : World} {b k : Nat} {a : Option Addr} {len cap : Nat} {zs : List Int} {row : Option Nat} (s : Src w b k a len cap zs) (g : w.grownBy w' row) (hp : ∀ k, row = some k → b < k) : Src w' b k a len cap zs := by
  have hn : ∀ x, x ≤ b → some x ≠ row := fun x hx e => by have := hp x e.symm; omega
  refine ⟨cell_grown g s.code (hn b (Nat.le_refl _)), cell_grown g s.count (hn b (Nat.le_refl _)), ?_, ?_, s.away, Nat.lt_of_lt_of_le s.here g.size⟩
  · rw [World.frozen?_of_block (w := w) (g.block b s.here (hn b (Nat.le_refl _)))]; exact s.free
  · rcases s.row with h0 | ⟨x, rfl, q1, q2, q3, q4, q5⟩
    · exact .inl h0
    · refine .inr ⟨x, rfl, q1, q2, q3, fun j hj => cell_grown g (q4 j hj) (hn _ ?_), q5⟩
      have hx := s.away x rfl (by omega)
      rw [src_block]
      omega
theorem lits3 (w : World) (x y z : Int) (t : TypeId) (P : Int → Prop) (h : P x ∧ P y ∧ P z) : ∀ i, i < 3 → ∃ v : Int, (w.alloc (.cells #[.int .i64 x, .int .i64 y, .int .i64 z] t)).cell? ⟨w.heap.size, i, none⟩ = some (.int .i64 v) ∧ P v := by
  intro i hi
  have e : i = 0 ∨ i = 1 ∨ i = 2 := by omega
  rcases e with rfl | rfl | rfl
  · exact ⟨x, cell_new rfl, h.1⟩
  · exact ⟨y, cell_new rfl, h.2.1⟩
  · exact ⟨z, cell_new rfl, h.2.2⟩
theorem lits2 (w : World) (x y : Int) (t : TypeId) : ∀ i, i < 2 → ∃ v : Int, (w.alloc (.cells #[.int .i64 x, .int .i64 y] t)).cell? ⟨w.heap.size, i, none⟩ = some (.int .i64 v) ∧ True := by
  intro i hi
  have e : i = 0 ∨ i = 1 := by omega
  rcases e with rfl | rfl
  · exact ⟨x, cell_new rfl, trivial⟩
  · exact ⟨y, cell_new rfl, trivial⟩
theorem Dq.new {w0 v : World} {b k : Nat} {a : Option Addr} {len cap : Nat} {zs : List Int} {base g lc : Nat} {ps : List (Int × Int)} {y : Value} {rs : List Qd} (h : Dq w0 v b k a len cap zs base g lc ps y rs) (o : Obj) : Dq w0 (v.alloc o) b k a len cap zs base g lc ps y rs :=
  h.turn (Turn.alloc _ _ _) (h.src.alloc _)

set_option maxRecDepth 100000 in
set_option maxHeartbeats 16000000 in
theorem cache_any {w : World} {b k : Nat} {a : Option Addr} {len cap : Nat} {zs : List Int} (s : Src w b k a len cap zs) (hk : k ≤ 80000) {base g lc : Nat} {ps : List (Int × Int)} (hP : Prs 51 w base (.slice (some ⟨g, 0, none⟩) 8 lc) ps) (hl : ps.length = 8) (hbb : b < base) :
    Calls Try.prog 16 #[.pointer (some ⟨b, 0, none⟩), .slice (some ⟨g, 0, none⟩) 8 lc] w fun e w' => ∃ (v : Value) (k' : Nat) (rs : List Qd), e = .returned v ∧ rs.length ≤ 13 ∧ Qs 65 w' w.heap.size v rs ∧ Turn b w w' ∧ k' ≤ k + 100 ∧ Src w' b k' a len cap zs := by
  have HK : Hid (k ≤ 80000) := hk
  have HL : Hid (ps.length = 8) := hl
  have HGB : Hid (base ≤ g ∧ g < w.heap.size ∧ b < base) := by have := hP.lt g rfl; exact ⟨this.1, this.2, hbb⟩
  have D0 : Hid (Dq w (w.alloc (.cells #[] 65)) b k a len cap zs base g lc ps (.slice (some ⟨w.heap.size, 0, none⟩) 0 0) []) :=
    ⟨s.alloc _, hP.keep (al (Below.refl _ _) _), Qs.empty (Nat.le_refl _), Turn.alloc _ _ _, hbb, s.here, (hP.lt g rfl).2⟩
  clear s hk hP hl hbb
  go_enter Try.func16, Try.ntmps16
  go_wp2_with fail
  generalize w.alloc (.cells #[] 65) = W0 at *
  generalize (Value.slice (some ⟨w.heap.size, 0, none⟩) 0 0) = y0 at *
  refine (next_any D0.out.src (by have := HK.out; omega) _).mono ?_
  rintro e w1 ⟨v1, rfl, h1, -, t1, s1⟩
  have D1 : Hid (Dq w w1 b (k + 1) a len cap zs base g lc ps (y0) ([])) := D0.out.turn t1 s1
  clear t1 s1
  go_wp2_with fail
  refine (next_any D1.out.src (by have := HK.out; omega) _).mono ?_
  rintro e w2 ⟨v2, rfl, h2, -, t2, s2⟩
  have D2 : Hid (Dq w w2 b (k + 1 + 1) a len cap zs base g lc ps (y0) ([])) := D1.out.turn t2 s2
  have HV : Hid ((0 ≤ v1 ∧ v1 ≤ 14) ∧ (0 ≤ v2 ∧ v2 ≤ 14)) := by
    have a1 := h1 (by omega)
    have a2 := h2 (by omega)
    exact ⟨⟨by omega, by omega⟩, ⟨by omega, by omega⟩⟩
  clear t2 s2 h1 h2
  have D3 : Hid (Dq w (w2.alloc (.cells #[.int .i64 v1, .int .i64 v2, .int .i64 14] 2)) b (k + 1 + 1) a len cap zs base g lc ps (y0) ([])) := D2.out.new _
  go_wp2_with fail
  refine (pick_any D3.out.src (by have := HK.out; omega) (fun v => 0 ≤ v ∧ v ≤ 14) _ 3 (by omega) (by omega) (by simp) (by have := D2.out.src.here; omega) (lits3 _ _ _ _ _ _ ⟨HV.out.1, HV.out.2, by decide⟩)).mono ?_
  rintro e w3 ⟨v3, rfl, ⟨h30, h31⟩, t3, s3⟩
  have D4 : Hid (Dq w w3 b (k + 1 + 1 + 1) a len cap zs base g lc ps (y0) ([])) := D3.out.turn t3 s3
  obtain ⟨j0, rfl⟩ := Int.eq_ofNat_of_zero_le h30
  have HJ0 : Hid (j0 ≤ 14) := by show _ ≤ _; omega
  clear t3 s3 h30 h31 D3 D2 D1 D0 HV
  go_wp2_with fail
  go_loopw [5, 6] (fun y c wr => ∃ (j : Nat) (rs : List Qd) (kk : Nat), c = .int .i64 j ∧ j ≤ 14 ∧ cfV rs = 0 ∧ kk + 5 * j ≤ k + 73 ∧ Dq w wr b kk a len cap zs base g lc ps y rs) (fun _ c _ => (intOf c).toNat)
  case atStart => exact ⟨j0, [], k + 1 + 1 + 1, rfl, HJ0.out, rfl, by have := HJ0.out; omega, D4.out⟩
  case round =>
    obtain ⟨j, rs, kk, rfl, hj, hc, hkk, hD⟩ := hrel
    have DB : Hid (Dq w wr b kk a len cap zs base g lc ps _ rs) := hD
    have HC : Hid (cfV rs = 0) := hc
    have HJ : Hid (j ≤ 14) := hj
    have HKK : Hid (kk + 5 * j ≤ k + 73) := hkk
    obtain ⟨ya, yc, hy, _, _, hya⟩ := hD.qq.shape
    obtain ⟨un, hun⟩ : ∃ un, rs.length = un := ⟨_, rfl⟩
    rw [hun] at hy hya
    subst hy
    have LR : Hid (rs.length = un) := hun
    have HYA : Hid (0 < un → ∃ g, ya = some ⟨g, 0, none⟩) := hya
    clear hD hc hj hkk hya hun D4
    by_cases hlt : 0 < j
    · have hI : (0 : Int) < (j : Int) := by omega
      have hI9 : (j : Int) ≤ 14 := by have := HJ.out; omega
      have HLT : Hid (0 < j) := hlt
      clear hlt
      go_wp2_with fail
      refine (next_any DB.out.src (by have := HK.out; have := HKK.out; omega) _).mono ?_
      rintro e u1 ⟨x1, rfl, g1, -, t1, s1⟩
      have D1 : Hid (Dq w u1 b (kk + 1) a len cap zs base g lc ps (.slice ya un yc) (rs)) := DB.out.turn t1 s1
      clear t1 s1
      go_wp2_with fail
      refine (next_any D1.out.src (by have := HK.out; have := HKK.out; omega) _).mono ?_
      rintro e u2 ⟨x2, rfl, g2, -, t1, s1⟩
      have D2 : Hid (Dq w u2 b (kk + 1 + 1) a len cap zs base g lc ps (.slice ya un yc) (rs)) := D1.out.turn t1 s1
      clear t1 s1
      go_wp2_with fail
      refine (next_any D2.out.src (by have := HK.out; have := HKK.out; omega) _).mono ?_
      rintro e u3 ⟨x3, rfl, g3, -, t1, s1⟩
      have D3 : Hid (Dq w u3 b (kk + 1 + 1 + 1) a len cap zs base g lc ps (.slice ya un yc) (rs)) := D2.out.turn t1 s1
      clear t1 s1
      go_wp2_with fail
      refine (next_any D3.out.src (by have := HK.out; have := HKK.out; have := HLT.out; omega) _).mono ?_
      rintro e u4 ⟨x4, rfl, g4, -, t1, s1⟩
      have D4 : Hid (Dq w u4 b (kk + 1 + 1 + 1 + 1) a len cap zs base g lc ps (.slice ya un yc) (rs)) := D3.out.turn t1 s1
      clear t1 s1
      obtain ⟨p1, p2⟩ := g1 (by omega)
      obtain ⟨p3, p4⟩ := g2 (by omega)
      obtain ⟨p5, p6⟩ := g3 (by omega)
      obtain ⟨p7, p8⟩ := g4 (by omega)
      obtain ⟨i, rfl⟩ := Int.eq_ofNat_of_zero_le p3
      have HX : Hid ((0 ≤ x1 ∧ x1 ≤ 9) ∧ i < 8 ∧ (0 ≤ x3 ∧ x3 ≤ 23) ∧ (1 ≤ 1 + x4 ∧ 1 + x4 ≤ 7)) := ⟨⟨by omega, by omega⟩, by omega, ⟨by omega, by omega⟩, ⟨by omega, by omega⟩⟩
      clear g1 g2 g3 g4 p1 p2 p3 p4 p5 p6 D1 D2 D3
      go_upto_region 6 with fail
      obtain ⟨N, hN⟩ : ∃ N, u4.heap.size = N := ⟨_, rfl⟩
      have DW : Hid (Dq w (u4.alloc (.cells #[.int .i64 x1, .int .i64 (i : Int), .int .i64 x3, .int .i64 (1 + x4)] 65)) b (kk + 1 + 1 + 1 + 1) a len cap zs base g lc ps (.slice ya un yc) (rs)) := D4.out.new _
      have VN : Hid (Vb (u4.alloc (.cells #[.int .i64 x1, .int .i64 (i : Int), .int .i64 x3, .int .i64 (1 + x4)] 65)) N #[.int .i64 x1, .int .i64 (i : Int), .int .i64 x3, .int .i64 (1 + x4)] 65) := by show Vb _ _ _ _; rw [← hN]; exact Vb.new _ _ _
      have HNB : Hid (b < N ∧ w.heap.size ≤ N) := by have := D4.out.src.here; have := D4.out.tn.size; exact ⟨by omega, by omega⟩
      have HYN : Hid ((Value.slice ya un yc).ownBlock ≠ some N) := fun e => by have := (D4.out.qq.lt N e).2; omega
      have c0 := (DW.out.pp.cell HL.out.symm i HX.out.2.1).1
      have c1 := (DW.out.pp.cell HL.out.symm i HX.out.2.1).2
      obtain ⟨pt, hpt⟩ : ∃ pt, (ps.getD i (0, 0)).1 = pt := ⟨_, rfl⟩
      obtain ⟨kd, hkd⟩ : ∃ kd, (ps.getD i (0, 0)).2 = kd := ⟨_, rfl⟩
      rw [hpt] at c0
      rw [hkd] at c1
      rw [hN]
      generalize u4.alloc (.cells #[.int .i64 x1, .int .i64 (i : Int), .int .i64 x3, .int .i64 (1 + x4)] 65) = W at *
      have hi8 : (i : Int) < 8 := by have := HX.out.2.1; omega
      have hi8' : i < 8 := HX.out.2.1
      clear hN hpt hkd D4
      have okN : Hid (okQ ⟨x1, i, x3, 1 + x4⟩ = true) := okQ_iff.2 (by have := HX.out; exact ⟨this.1.1, this.1.2, by show (0 : Int) ≤ (i : Int); omega, by show (i : Int) ≤ 7; omega, this.2.2.1.1, this.2.2.1.2, this.2.2.2.1, this.2.2.2.2⟩)
      cases hok : okQ ⟨0, 0, pt, kd⟩
      · skip
        have SD : Hid (Vb W.drew N #[.int .i64 x1, .int .i64 (i : Int), .int .i64 x3, .int .i64 (1 + x4)] 65 ∧ W.drew.cell? ⟨g, i * 2, none⟩ = some (.int .i64 pt) ∧ W.drew.cell? ⟨g, i * 2 + 1, none⟩ = some (.int .i64 kd)) := ⟨VN.out.keep (Below.refl _ _).drew, c0, c1⟩
        have DD : Hid (Dq w W.drew b (kk + 1 + 1 + 1 + 1) a len cap zs base g lc ps (.slice ya un yc) (rs)) := DW.out.turn (Turn.of_below (Below.refl _ _).drew) (DW.out.src.turn (Turn.of_below (b := W.heap.size) (Below.refl _ _).drew) (Nat.le_refl _))
        refine wp_region_held (S := fun w' => Vb w' N #[.int .i64 x1, .int .i64 (i : Int), .int .i64 x3, .int .i64 (1 + x4)] 65 ∧ w'.cell? ⟨g, i * 2, none⟩ = some (.int .i64 pt) ∧ w'.cell? ⟨g, i * 2 + 1, none⟩ = some (.int .i64 kd)) (by kernel_rfl) ?_
        change wpAnyH _ _ _ _ _ _ _ _ (World.drew _)
        generalize W.drew = v1 at *
        refine wpAnyH_take (i := 0) (v := .slice (some ⟨g, 0, none⟩) 8 lc) rfl (by kernel_rfl) (by kernel_rfl) (by kernel_rfl) (fun _ _ _ h => h) (Or.inl ⟨by rfl, fun w' hs => by go_simp⟩) SD.out ?_
        change wpAnyH _ _ _ _ _ _ _ (Act.put _ (some 30) _) _
        simp only [Act.put, List.setIfInBounds_toArray, List.set_cons_zero, List.set_cons_succ]
        refine wpAnyH_take (i := 1) (v := .int .i64 8) rfl (by kernel_rfl) (by kernel_rfl) (by kernel_rfl) (fun _ _ _ h => h) (Or.inl ⟨by rfl, fun w' hs => by go_simp⟩) SD.out ?_
        change wpAnyH _ _ _ _ _ _ _ (Act.put _ (some 31) _) _
        simp only [Act.put, List.setIfInBounds_toArray, List.set_cons_zero, List.set_cons_succ]
        refine wpAnyH_take (i := 2) (v := .bool true) rfl (by kernel_rfl) (by kernel_rfl) (by kernel_rfl) (fun _ _ _ h => h) (Or.inl ⟨by rfl, fun w' hs => by go_simp⟩) SD.out ?_
        change wpAnyH _ _ _ _ _ _ _ (Act.put _ (some 32) _) _
        simp only [Act.put, List.setIfInBounds_toArray, List.set_cons_zero, List.set_cons_succ]
        refine wpAnyH_take (i := 3) (v := .bool true) rfl (by kernel_rfl) (by kernel_rfl) (by kernel_rfl) (fun _ _ _ h => h) (Or.inl ⟨by rfl, fun w' hs => by go_simp⟩) SD.out ?_
        change wpAnyH _ _ _ _ _ _ _ (Act.put _ (some 33) _) _
        simp only [Act.put, List.setIfInBounds_toArray, List.set_cons_zero, List.set_cons_succ]
        refine wpAnyH_take (i := 4) (v := .slice (some ⟨g, 0, none⟩) 8 lc) rfl (by kernel_rfl) (by kernel_rfl) (by kernel_rfl) (fun _ _ _ h => h) (Or.inl ⟨by rfl, fun w' hs => by go_simp⟩) SD.out ?_
        change wpAnyH _ _ _ _ _ _ _ (Act.put _ (some 34) _) _
        simp only [Act.put, List.setIfInBounds_toArray, List.set_cons_zero, List.set_cons_succ]
        refine wpAnyH_take (i := 5) (v := .pointer (some ⟨N, 1, none⟩)) rfl (by kernel_rfl) (by kernel_rfl) (by kernel_rfl) (fun _ _ _ h => h) (Or.inl ⟨by rfl, fun w' hs => by go_simp⟩) SD.out ?_
        change wpAnyH _ _ _ _ _ _ _ (Act.put _ (some 35) _) _
        simp only [Act.put, List.setIfInBounds_toArray, List.set_cons_zero, List.set_cons_succ]
        refine wpAnyH_take (i := 6) (v := .int .i64 (i : Int)) rfl (by kernel_rfl) (by kernel_rfl) (by kernel_rfl) (fun _ _ _ h => h) (Or.inl ⟨by rfl, fun w' hs => by have hc := (hs.1.cell 1 rfl : w'.cell? ⟨N, 1, none⟩ = some (.int .i64 (i : Int))); go_simp⟩) SD.out ?_
        change wpAnyH _ _ _ _ _ _ _ (Act.put _ (some 36) _) _
        simp only [Act.put, List.setIfInBounds_toArray, List.set_cons_zero, List.set_cons_succ]
        refine wpAnyH_take (i := 7) (v := .pointer (some ⟨g, i * 2, none⟩)) rfl (by kernel_rfl) (by kernel_rfl) (by kernel_rfl) (fun _ _ _ h => h) (Or.inl ⟨by rfl, fun w' hs => by have h1 := hi8; have h2 := hi8'; go_simp⟩) SD.out ?_
        change wpAnyH _ _ _ _ _ _ _ (Act.put _ (some 37) _) _
        simp only [Act.put, List.setIfInBounds_toArray, List.set_cons_zero, List.set_cons_succ]
        refine wpAnyH_take (i := 8) (v := .pointer (some ⟨g, i * 2, none⟩)) rfl (by kernel_rfl) (by kernel_rfl) (by kernel_rfl) (fun _ _ _ h => h) (Or.inl ⟨by rfl, fun w' hs => by go_simp⟩) SD.out ?_
        change wpAnyH _ _ _ _ _ _ _ (Act.put _ (some 38) _) _
        simp only [Act.put, List.setIfInBounds_toArray, List.set_cons_zero, List.set_cons_succ]
        refine wpAnyH_take (i := 9) (v := .int .i64 pt) rfl (by kernel_rfl) (by kernel_rfl) (by kernel_rfl) (fun _ _ _ h => h) (Or.inl ⟨by rfl, fun w' hs => by have hc := hs.2.1; go_simp⟩) SD.out ?_
        change wpAnyH _ _ _ _ _ _ _ (Act.put _ (some 39) _) _
        simp only [Act.put, List.setIfInBounds_toArray, List.set_cons_zero, List.set_cons_succ]
        refine wpAnyH_take (i := 10) (v := .slice (some ⟨g, 0, none⟩) 8 lc) rfl (by kernel_rfl) (by kernel_rfl) (by kernel_rfl) (fun _ _ _ h => h) (Or.inl ⟨by rfl, fun w' hs => by go_simp⟩) SD.out ?_
        change wpAnyH _ _ _ _ _ _ _ (Act.put _ (some 40) _) _
        simp only [Act.put, List.setIfInBounds_toArray, List.set_cons_zero, List.set_cons_succ]
        refine wpAnyH_take (i := 11) (v := .pointer (some ⟨N, 1, none⟩)) rfl (by kernel_rfl) (by kernel_rfl) (by kernel_rfl) (fun _ _ _ h => h) (Or.inl ⟨by rfl, fun w' hs => by go_simp⟩) SD.out ?_
        change wpAnyH _ _ _ _ _ _ _ (Act.put _ (some 41) _) _
        simp only [Act.put, List.setIfInBounds_toArray, List.set_cons_zero, List.set_cons_succ]
        refine wpAnyH_take (i := 12) (v := .int .i64 (i : Int)) rfl (by kernel_rfl) (by kernel_rfl) (by kernel_rfl) (fun _ _ _ h => h) (Or.inl ⟨by rfl, fun w' hs => by have hc := (hs.1.cell 1 rfl : w'.cell? ⟨N, 1, none⟩ = some (.int .i64 (i : Int))); go_simp⟩) SD.out ?_
        change wpAnyH _ _ _ _ _ _ _ (Act.put _ (some 42) _) _
        simp only [Act.put, List.setIfInBounds_toArray, List.set_cons_zero, List.set_cons_succ]
        refine wpAnyH_take (i := 13) (v := .pointer (some ⟨g, i * 2, none⟩)) rfl (by kernel_rfl) (by kernel_rfl) (by kernel_rfl) (fun _ _ _ h => h) (Or.inl ⟨by rfl, fun w' hs => by have h1 := hi8; have h2 := hi8'; go_simp⟩) SD.out ?_
        change wpAnyH _ _ _ _ _ _ _ (Act.put _ (some 43) _) _
        simp only [Act.put, List.setIfInBounds_toArray, List.set_cons_zero, List.set_cons_succ]
        refine wpAnyH_take (i := 14) (v := .pointer (some ⟨g, i * 2 + 1, none⟩)) rfl (by kernel_rfl) (by kernel_rfl) (by kernel_rfl) (fun _ _ _ h => h) (Or.inl ⟨by rfl, fun w' hs => by go_simp⟩) SD.out ?_
        change wpAnyH _ _ _ _ _ _ _ (Act.put _ (some 44) _) _
        simp only [Act.put, List.setIfInBounds_toArray, List.set_cons_zero, List.set_cons_succ]
        refine wpAnyH_take (i := 15) (v := .int .i64 kd) rfl (by kernel_rfl) (by kernel_rfl) (by kernel_rfl) (fun _ _ _ h => h) (Or.inl ⟨by rfl, fun w' hs => by have hc := hs.2.2; go_simp⟩) SD.out ?_
        change wpAnyH _ _ _ _ _ _ _ (Act.put _ (some 45) _) _
        simp only [Act.put, List.setIfInBounds_toArray, List.set_cons_zero, List.set_cons_succ]
        refine wpAnyH_take (i := 16) (v := .agg #[.int .i64 0, .int .i64 0, .int .i64 pt, .int .i64 kd]) rfl (by kernel_rfl) (by kernel_rfl) (by kernel_rfl) (fun _ _ _ h => h) (Or.inl ⟨by rfl, fun w' hs => by go_simp⟩) SD.out ?_
        change wpAnyH _ _ _ _ _ _ _ (Act.put _ (some 46) _) _
        simp only [Act.put, List.setIfInBounds_toArray, List.set_cons_zero, List.set_cons_succ]
        refine wpAnyH_ready (rs := [17]) (by kernel_rfl) (by simp) ?_
        refine AllReadyH.cons rfl (fun K hK => ?_) AllReadyH.nil
        rw [if_pos (by rfl)]
        go_simp
        refine (spec_hit ⟨0, 0, pt, kd⟩ _).mono ?_
        rintro e y1 ⟨rfl, d1⟩
        rw [hok]
        have S1 : Hid (Vb y1 N #[.int .i64 x1, .int .i64 (i : Int), .int .i64 x3, .int .i64 (1 + x4)] 65 ∧ y1.cell? ⟨g, i * 2, none⟩ = some (.int .i64 pt) ∧ y1.cell? ⟨g, i * 2 + 1, none⟩ = some (.int .i64 kd)) := ⟨SD.out.1.keep d1, cell_keep d1 SD.out.2.1, cell_keep d1 SD.out.2.2⟩
        have D1 : Hid (Dq w y1 b (kk + 1 + 1 + 1 + 1) a len cap zs base g lc ps (.slice ya un yc) (rs)) := DD.out.turn (Turn.of_below d1) (DD.out.src.turn (Turn.of_below (b := v1.heap.size) d1) (Nat.le_refl _))
        refine hK.out _ _ S1.out (fun _ => ?_)
        clear hK K d1
        refine wpAnyH_take (i := 18) (v := .bool false) rfl (by kernel_rfl) (by kernel_rfl) (by kernel_rfl) (fun _ _ _ h => h) (Or.inl ⟨by rfl, fun w' hs => by go_simp⟩) S1.out ?_
        change wpAnyH _ _ _ _ _ _ _ (Act.put _ (some 48) _) _
        simp only [Act.put, List.setIfInBounds_toArray, List.set_cons_zero, List.set_cons_succ]
        refine wpAnyH_take (i := 19) (v := .bool false) rfl (by kernel_rfl) (by kernel_rfl) (by kernel_rfl) (fun _ _ _ h => h) (Or.inl ⟨by rfl, fun w' hs => by go_simp⟩) S1.out ?_
        change wpAnyH _ _ _ _ _ _ _ (Act.put _ (some 49) _) _
        simp only [Act.put, List.setIfInBounds_toArray, List.set_cons_zero, List.set_cons_succ]
        refine wpAnyH_take (i := 20) (v := undef) rfl (by kernel_rfl) (by kernel_rfl) (by kernel_rfl) (fun _ _ _ h => h) (Or.inr ⟨by rfl, rfl⟩) S1.out ?_
        change wpAnyH _ _ _ _ _ _ _ (Act.put _ (some 50) _) _
        simp only [Act.put, List.setIfInBounds_toArray, List.set_cons_zero, List.set_cons_succ]
        refine wpAnyH_take (i := 21) (v := undef) rfl (by kernel_rfl) (by kernel_rfl) (by kernel_rfl) (fun _ _ _ h => h) (Or.inr ⟨by rfl, rfl⟩) S1.out ?_
        change wpAnyH _ _ _ _ _ _ _ (Act.put _ (some 51) _) _
        simp only [Act.put, List.setIfInBounds_toArray, List.set_cons_zero, List.set_cons_succ]
        refine wpAnyH_take (i := 22) (v := undef) rfl (by kernel_rfl) (by kernel_rfl) (by kernel_rfl) (fun _ _ _ h => h) (Or.inr ⟨by rfl, rfl⟩) S1.out ?_
        change wpAnyH _ _ _ _ _ _ _ (Act.put _ (some 52) _) _
        simp only [Act.put, List.setIfInBounds_toArray, List.set_cons_zero, List.set_cons_succ]
        refine wpAnyH_take (i := 23) (v := .bool false) rfl (by kernel_rfl) (by kernel_rfl) (by kernel_rfl) (fun _ _ _ h => h) (Or.inl ⟨by rfl, fun w' hs => by go_simp⟩) S1.out ?_
        change wpAnyH _ _ _ _ _ _ _ (Act.put _ (some 53) _) _
        simp only [Act.put, List.setIfInBounds_toArray, List.set_cons_zero, List.set_cons_succ]
        refine wpAnyH_done (by kernel_rfl) ?_ _
        clear p7 p8
        have h0 := S1.out.1.cell 0 rfl
        have h1 := S1.out.1.cell 1 rfl
        have h2 := S1.out.1.cell 2 rfl
        have h3 := S1.out.1.cell 3 rfl
        go_wp2_with fail
        refine (fill_turn D1.out.src D1.out.qq HC.out ⟨x1, i, x3, 1 + x4⟩ D1.out.tn.size).mono ?_
        rintro e u9 ⟨v9, rfl, q9, t9, s9⟩
        have D9 : Hid (Dq w u9 b (kk + 1 + 1 + 1 + 1) a len cap zs base g lc ps (v9) (fillQ rs ⟨x1, i, x3, 1 + x4⟩)) := (D1.out.turn t9 s9).put q9
        have OK9 : Hid (cfV (fillQ rs ⟨x1, i, x3, 1 + x4⟩) = 0) := (fill_ok HC.out okN.out).1
        clear q9 t9 s9 h0 h1 h2 h3
        go_wp2_with fail
        go_roundw
        case rel => exact ⟨j - 1, _, _, by have := HLT.out; have e : ((j - 1 : Nat) : Int) = (j : Int) - 1 := (by omega); rw [e], by have := HJ.out; omega, OK9.out, by have := HKK.out; have := HLT.out; omega, D9.out⟩
        case measure => have := HLT.out; simp [intOf]; omega
      · have okP : Hid (okQ ⟨x1, i, pt, kd⟩ = true) := by
          have h := okQ_iff.1 hok
          have := HX.out
          exact okQ_iff.2 ⟨this.1.1, this.1.2, by show (0 : Int) ≤ (i : Int); omega, by show (i : Int) ≤ 7; omega, h.2.2.2.2.1, h.2.2.2.2.2.1, h.2.2.2.2.2.2.1, h.2.2.2.2.2.2.2⟩
        have SD : Hid (Vb W.drew N #[.int .i64 x1, .int .i64 (i : Int), .int .i64 x3, .int .i64 (1 + x4)] 65 ∧ W.drew.cell? ⟨g, i * 2, none⟩ = some (.int .i64 pt) ∧ W.drew.cell? ⟨g, i * 2 + 1, none⟩ = some (.int .i64 kd)) := ⟨VN.out.keep (Below.refl _ _).drew, c0, c1⟩
        have DD : Hid (Dq w W.drew b (kk + 1 + 1 + 1 + 1) a len cap zs base g lc ps (.slice ya un yc) (rs)) := DW.out.turn (Turn.of_below (Below.refl _ _).drew) (DW.out.src.turn (Turn.of_below (b := W.heap.size) (Below.refl _ _).drew) (Nat.le_refl _))
        refine wp_region_held (S := fun w' => Vb w' N #[.int .i64 x1, .int .i64 (i : Int), .int .i64 x3, .int .i64 (1 + x4)] 65 ∧ w'.cell? ⟨g, i * 2, none⟩ = some (.int .i64 pt) ∧ w'.cell? ⟨g, i * 2 + 1, none⟩ = some (.int .i64 kd)) (by kernel_rfl) ?_
        change wpAnyH _ _ _ _ _ _ _ _ (World.drew _)
        generalize W.drew = v1 at *
        refine wpAnyH_take (i := 0) (v := .slice (some ⟨g, 0, none⟩) 8 lc) rfl (by kernel_rfl) (by kernel_rfl) (by kernel_rfl) (fun _ _ _ h => h) (Or.inl ⟨by rfl, fun w' hs => by go_simp⟩) SD.out ?_
        change wpAnyH _ _ _ _ _ _ _ (Act.put _ (some 30) _) _
        simp only [Act.put, List.setIfInBounds_toArray, List.set_cons_zero, List.set_cons_succ]
        refine wpAnyH_take (i := 1) (v := .int .i64 8) rfl (by kernel_rfl) (by kernel_rfl) (by kernel_rfl) (fun _ _ _ h => h) (Or.inl ⟨by rfl, fun w' hs => by go_simp⟩) SD.out ?_
        change wpAnyH _ _ _ _ _ _ _ (Act.put _ (some 31) _) _
        simp only [Act.put, List.setIfInBounds_toArray, List.set_cons_zero, List.set_cons_succ]
        refine wpAnyH_take (i := 2) (v := .bool true) rfl (by kernel_rfl) (by kernel_rfl) (by kernel_rfl) (fun _ _ _ h => h) (Or.inl ⟨by rfl, fun w' hs => by go_simp⟩) SD.out ?_
        change wpAnyH _ _ _ _ _ _ _ (Act.put _ (some 32) _) _
        simp only [Act.put, List.setIfInBounds_toArray, List.set_cons_zero, List.set_cons_succ]
        refine wpAnyH_take (i := 3) (v := .bool true) rfl (by kernel_rfl) (by kernel_rfl) (by kernel_rfl) (fun _ _ _ h => h) (Or.inl ⟨by rfl, fun w' hs => by go_simp⟩) SD.out ?_
        change wpAnyH _ _ _ _ _ _ _ (Act.put _ (some 33) _) _
        simp only [Act.put, List.setIfInBounds_toArray, List.set_cons_zero, List.set_cons_succ]
        refine wpAnyH_take (i := 4) (v := .slice (some ⟨g, 0, none⟩) 8 lc) rfl (by kernel_rfl) (by kernel_rfl) (by kernel_rfl) (fun _ _ _ h => h) (Or.inl ⟨by rfl, fun w' hs => by go_simp⟩) SD.out ?_
        change wpAnyH _ _ _ _ _ _ _ (Act.put _ (some 34) _) _
        simp only [Act.put, List.setIfInBounds_toArray, List.set_cons_zero, List.set_cons_succ]
        refine wpAnyH_take (i := 5) (v := .pointer (some ⟨N, 1, none⟩)) rfl (by kernel_rfl) (by kernel_rfl) (by kernel_rfl) (fun _ _ _ h => h) (Or.inl ⟨by rfl, fun w' hs => by go_simp⟩) SD.out ?_
        change wpAnyH _ _ _ _ _ _ _ (Act.put _ (some 35) _) _
        simp only [Act.put, List.setIfInBounds_toArray, List.set_cons_zero, List.set_cons_succ]
        refine wpAnyH_take (i := 6) (v := .int .i64 (i : Int)) rfl (by kernel_rfl) (by kernel_rfl) (by kernel_rfl) (fun _ _ _ h => h) (Or.inl ⟨by rfl, fun w' hs => by have hc := (hs.1.cell 1 rfl : w'.cell? ⟨N, 1, none⟩ = some (.int .i64 (i : Int))); go_simp⟩) SD.out ?_
        change wpAnyH _ _ _ _ _ _ _ (Act.put _ (some 36) _) _
        simp only [Act.put, List.setIfInBounds_toArray, List.set_cons_zero, List.set_cons_succ]
        refine wpAnyH_take (i := 7) (v := .pointer (some ⟨g, i * 2, none⟩)) rfl (by kernel_rfl) (by kernel_rfl) (by kernel_rfl) (fun _ _ _ h => h) (Or.inl ⟨by rfl, fun w' hs => by have h1 := hi8; have h2 := hi8'; go_simp⟩) SD.out ?_
        change wpAnyH _ _ _ _ _ _ _ (Act.put _ (some 37) _) _
        simp only [Act.put, List.setIfInBounds_toArray, List.set_cons_zero, List.set_cons_succ]
        refine wpAnyH_take (i := 8) (v := .pointer (some ⟨g, i * 2, none⟩)) rfl (by kernel_rfl) (by kernel_rfl) (by kernel_rfl) (fun _ _ _ h => h) (Or.inl ⟨by rfl, fun w' hs => by go_simp⟩) SD.out ?_
        change wpAnyH _ _ _ _ _ _ _ (Act.put _ (some 38) _) _
        simp only [Act.put, List.setIfInBounds_toArray, List.set_cons_zero, List.set_cons_succ]
        refine wpAnyH_take (i := 9) (v := .int .i64 pt) rfl (by kernel_rfl) (by kernel_rfl) (by kernel_rfl) (fun _ _ _ h => h) (Or.inl ⟨by rfl, fun w' hs => by have hc := hs.2.1; go_simp⟩) SD.out ?_
        change wpAnyH _ _ _ _ _ _ _ (Act.put _ (some 39) _) _
        simp only [Act.put, List.setIfInBounds_toArray, List.set_cons_zero, List.set_cons_succ]
        refine wpAnyH_take (i := 10) (v := .slice (some ⟨g, 0, none⟩) 8 lc) rfl (by kernel_rfl) (by kernel_rfl) (by kernel_rfl) (fun _ _ _ h => h) (Or.inl ⟨by rfl, fun w' hs => by go_simp⟩) SD.out ?_
        change wpAnyH _ _ _ _ _ _ _ (Act.put _ (some 40) _) _
        simp only [Act.put, List.setIfInBounds_toArray, List.set_cons_zero, List.set_cons_succ]
        refine wpAnyH_take (i := 11) (v := .pointer (some ⟨N, 1, none⟩)) rfl (by kernel_rfl) (by kernel_rfl) (by kernel_rfl) (fun _ _ _ h => h) (Or.inl ⟨by rfl, fun w' hs => by go_simp⟩) SD.out ?_
        change wpAnyH _ _ _ _ _ _ _ (Act.put _ (some 41) _) _
        simp only [Act.put, List.setIfInBounds_toArray, List.set_cons_zero, List.set_cons_succ]
        refine wpAnyH_take (i := 12) (v := .int .i64 (i : Int)) rfl (by kernel_rfl) (by kernel_rfl) (by kernel_rfl) (fun _ _ _ h => h) (Or.inl ⟨by rfl, fun w' hs => by have hc := (hs.1.cell 1 rfl : w'.cell? ⟨N, 1, none⟩ = some (.int .i64 (i : Int))); go_simp⟩) SD.out ?_
        change wpAnyH _ _ _ _ _ _ _ (Act.put _ (some 42) _) _
        simp only [Act.put, List.setIfInBounds_toArray, List.set_cons_zero, List.set_cons_succ]
        refine wpAnyH_take (i := 13) (v := .pointer (some ⟨g, i * 2, none⟩)) rfl (by kernel_rfl) (by kernel_rfl) (by kernel_rfl) (fun _ _ _ h => h) (Or.inl ⟨by rfl, fun w' hs => by have h1 := hi8; have h2 := hi8'; go_simp⟩) SD.out ?_
        change wpAnyH _ _ _ _ _ _ _ (Act.put _ (some 43) _) _
        simp only [Act.put, List.setIfInBounds_toArray, List.set_cons_zero, List.set_cons_succ]
        refine wpAnyH_take (i := 14) (v := .pointer (some ⟨g, i * 2 + 1, none⟩)) rfl (by kernel_rfl) (by kernel_rfl) (by kernel_rfl) (fun _ _ _ h => h) (Or.inl ⟨by rfl, fun w' hs => by go_simp⟩) SD.out ?_
        change wpAnyH _ _ _ _ _ _ _ (Act.put _ (some 44) _) _
        simp only [Act.put, List.setIfInBounds_toArray, List.set_cons_zero, List.set_cons_succ]
        refine wpAnyH_take (i := 15) (v := .int .i64 kd) rfl (by kernel_rfl) (by kernel_rfl) (by kernel_rfl) (fun _ _ _ h => h) (Or.inl ⟨by rfl, fun w' hs => by have hc := hs.2.2; go_simp⟩) SD.out ?_
        change wpAnyH _ _ _ _ _ _ _ (Act.put _ (some 45) _) _
        simp only [Act.put, List.setIfInBounds_toArray, List.set_cons_zero, List.set_cons_succ]
        refine wpAnyH_take (i := 16) (v := .agg #[.int .i64 0, .int .i64 0, .int .i64 pt, .int .i64 kd]) rfl (by kernel_rfl) (by kernel_rfl) (by kernel_rfl) (fun _ _ _ h => h) (Or.inl ⟨by rfl, fun w' hs => by go_simp⟩) SD.out ?_
        change wpAnyH _ _ _ _ _ _ _ (Act.put _ (some 46) _) _
        simp only [Act.put, List.setIfInBounds_toArray, List.set_cons_zero, List.set_cons_succ]
        refine wpAnyH_ready (rs := [17]) (by kernel_rfl) (by simp) ?_
        refine AllReadyH.cons rfl (fun K hK => ?_) AllReadyH.nil
        rw [if_pos (by rfl)]
        go_simp
        refine (spec_hit ⟨0, 0, pt, kd⟩ _).mono ?_
        rintro e y1 ⟨rfl, d1⟩
        rw [hok]
        have S1 : Hid (Vb y1 N #[.int .i64 x1, .int .i64 (i : Int), .int .i64 x3, .int .i64 (1 + x4)] 65 ∧ y1.cell? ⟨g, i * 2, none⟩ = some (.int .i64 pt) ∧ y1.cell? ⟨g, i * 2 + 1, none⟩ = some (.int .i64 kd)) := ⟨SD.out.1.keep d1, cell_keep d1 SD.out.2.1, cell_keep d1 SD.out.2.2⟩
        have D1 : Hid (Dq w y1 b (kk + 1 + 1 + 1 + 1) a len cap zs base g lc ps (.slice ya un yc) (rs)) := DD.out.turn (Turn.of_below d1) (DD.out.src.turn (Turn.of_below (b := v1.heap.size) d1) (Nat.le_refl _))
        refine hK.out _ _ S1.out (fun _ => ?_)
        clear hK K d1
        refine wpAnyH_take (i := 18) (v := .bool true) rfl (by kernel_rfl) (by kernel_rfl) (by kernel_rfl) (fun _ _ _ h => h) (Or.inl ⟨by rfl, fun w' hs => by go_simp⟩) S1.out ?_
        change wpAnyH _ _ _ _ _ _ _ (Act.put _ (some 48) _) _
        simp only [Act.put, List.setIfInBounds_toArray, List.set_cons_zero, List.set_cons_succ]
        refine wpAnyH_take (i := 19) (v := .bool true) rfl (by kernel_rfl) (by kernel_rfl) (by kernel_rfl) (fun _ _ _ h => h) (Or.inl ⟨by rfl, fun w' hs => by go_simp⟩) S1.out ?_
        change wpAnyH _ _ _ _ _ _ _ (Act.put _ (some 49) _) _
        simp only [Act.put, List.setIfInBounds_toArray, List.set_cons_zero, List.set_cons_succ]
        refine wpAnyH_take (i := 20) (v := .pointer (some ⟨b, 0, none⟩)) rfl (by kernel_rfl) (by kernel_rfl) (by kernel_rfl) (fun _ _ _ h => h) (Or.inl ⟨by rfl, fun w' hs => by go_simp⟩) S1.out ?_
        change wpAnyH _ _ _ _ _ _ _ (Act.put _ (some 50) _) _
        simp only [Act.put, List.setIfInBounds_toArray, List.set_cons_zero, List.set_cons_succ]
        refine wpAnyH_ready (rs := [21]) (by kernel_rfl) (by simp) ?_
        refine AllReadyH.cons rfl (fun K hK => ?_) AllReadyH.nil
        rw [if_pos (by rfl)]
        go_simp
        refine (chance_any D1.out.src (by have := HK.out; have := HKK.out; have := HLT.out; omega) _).mono ?_
        rintro e y2 ⟨cv, rfl, t2, s2⟩
        have S2 : Hid (Vb y2 N #[.int .i64 x1, .int .i64 (i : Int), .int .i64 x3, .int .i64 (1 + x4)] 65 ∧ y2.cell? ⟨g, i * 2, none⟩ = some (.int .i64 pt) ∧ y2.cell? ⟨g, i * 2 + 1, none⟩ = some (.int .i64 kd)) := ⟨(t2.block N S1.out.1.lt (by have := HNB.out; omega)).trans S1.out.1, by rw [t2.cell (p := ⟨g, i * 2, none⟩) (block_of_cell S1.out.2.1) (by have := HGB.out; show g ≠ b; omega)]; exact S1.out.2.1, by rw [t2.cell (p := ⟨g, i * 2 + 1, none⟩) (block_of_cell S1.out.2.2) (by have := HGB.out; show g ≠ b; omega)]; exact S1.out.2.2⟩
        have D2 : Hid (Dq w y2 b (kk + 1 + 1 + 1 + 1 + 1) a len cap zs base g lc ps (.slice ya un yc) (rs)) := D1.out.turn t2 s2
        refine hK.out _ _ S2.out (fun _ => ?_)
        clear hK K t2 s2
        refine wpAnyH_take (i := 22) (v := .bool (!cv)) rfl (by kernel_rfl) (by kernel_rfl) (by kernel_rfl) (fun _ _ _ h => h) (Or.inl ⟨by rfl, fun w' hs => by go_simp⟩) S2.out ?_
        change wpAnyH _ _ _ _ _ _ _ (Act.put _ (some 52) _) _
        simp only [Act.put, List.setIfInBounds_toArray, List.set_cons_zero, List.set_cons_succ]
        refine wpAnyH_take (i := 23) (v := .bool (!cv)) rfl (by kernel_rfl) (by kernel_rfl) (by kernel_rfl) (fun _ _ _ h => h) (Or.inl ⟨by rfl, fun w' hs => by go_simp⟩) S2.out ?_
        change wpAnyH _ _ _ _ _ _ _ (Act.put _ (some 53) _) _
        simp only [Act.put, List.setIfInBounds_toArray, List.set_cons_zero, List.set_cons_succ]
        refine wpAnyH_done (by kernel_rfl) ?_ _
        clear p7 p8
        cases cv
        · have e2 : Hid (y2.cell? ⟨g, i * 2, none⟩ = some (.int .i64 pt) ∧ y2.cell? ⟨g, i * 2 + 1, none⟩ = some (.int .i64 kd)) := ⟨S2.out.2.1, S2.out.2.2⟩
          have D3 : Hid (Dq w ((y2.setCell ⟨N, 2, none⟩ (.int .i64 pt)).setCell ⟨N, 3, none⟩ (.int .i64 kd)) b (kk + 1 + 1 + 1 + 1 + 1) a len cap zs base g lc ps (.slice ya un yc) (rs)) := (D2.out.set N 2 _ HNB.out.2 HYN.out).set N 3 _ HNB.out.2 HYN.out
          have V2 : Hid (Vb (y2.setCell ⟨N, 2, none⟩ (.int .i64 pt)) N #[.int .i64 x1, .int .i64 (i : Int), .int .i64 pt, .int .i64 (1 + x4)] 65) := S2.out.1.set 2 _
          have V3 : Hid (Vb ((y2.setCell ⟨N, 2, none⟩ (.int .i64 pt)).setCell ⟨N, 3, none⟩ (.int .i64 kd)) N #[.int .i64 x1, .int .i64 (i : Int), .int .i64 pt, .int .i64 kd] 65) := V2.out.set 3 _
          have n1 := S2.out.1.cell 1 rfl
          have n2 := S2.out.1.cell 2 rfl
          have f2 := S2.out.1.free 2
          have n1' := V2.out.cell 1 rfl
          have n3' := V2.out.cell 3 rfl
          have f3' := V2.out.free 3
          have k0 := e2.out.1
          have hgN : g ≠ N := by have := HNB.out; have := HGB.out; omega
          have k1 : (y2.setCell ⟨N, 2, none⟩ (.int .i64 pt)).cell? ⟨g, i * 2 + 1, none⟩ = some (.int .i64 kd) := by rw [World.cell?_setCell_other _ _ _ _ (by simp)]; exact e2.out.2
          go_upto_region 9 with fail
          generalize (y2.setCell ⟨N, 2, none⟩ (.int .i64 pt)).setCell ⟨N, 3, none⟩ (.int .i64 kd) = Y3 at *
          clear n1 n2 f2 n1' n3' f3' k0 k1
          have h0 := V3.out.cell 0 rfl
          have h1 := V3.out.cell 1 rfl
          have h2 := V3.out.cell 2 rfl
          have h3 := V3.out.cell 3 rfl
          go_wp2_with fail
          refine (fill_turn D3.out.src D3.out.qq HC.out ⟨x1, i, pt, kd⟩ D3.out.tn.size).mono ?_
          rintro e u9 ⟨v9, rfl, q9, t9, s9⟩
          have D9 : Hid (Dq w u9 b (kk + 1 + 1 + 1 + 1 + 1) a len cap zs base g lc ps (v9) (fillQ rs ⟨x1, i, pt, kd⟩)) := (D3.out.turn t9 s9).put q9
          have OK9 : Hid (cfV (fillQ rs ⟨x1, i, pt, kd⟩) = 0) := (fill_ok HC.out okP.out).1
          clear q9 t9 s9 h0 h1 h2 h3
          go_wp2_with fail
          go_roundw
          case rel => exact ⟨j - 1, _, _, by have := HLT.out; have e : ((j - 1 : Nat) : Int) = (j : Int) - 1 := (by omega); rw [e], by have := HJ.out; omega, OK9.out, by have := HKK.out; have := HLT.out; omega, D9.out⟩
          case measure => have := HLT.out; simp [intOf]; omega
        · skip
          have h0 := S2.out.1.cell 0 rfl
          have h1 := S2.out.1.cell 1 rfl
          have h2 := S2.out.1.cell 2 rfl
          have h3 := S2.out.1.cell 3 rfl
          go_wp2_with fail
          refine (fill_turn D2.out.src D2.out.qq HC.out ⟨x1, i, x3, 1 + x4⟩ D2.out.tn.size).mono ?_
          rintro e u9 ⟨v9, rfl, q9, t9, s9⟩
          have D9 : Hid (Dq w u9 b (kk + 1 + 1 + 1 + 1 + 1) a len cap zs base g lc ps (v9) (fillQ rs ⟨x1, i, x3, 1 + x4⟩)) := (D2.out.turn t9 s9).put q9
          have OK9 : Hid (cfV (fillQ rs ⟨x1, i, x3, 1 + x4⟩) = 0) := (fill_ok HC.out okN.out).1
          clear q9 t9 s9 h0 h1 h2 h3
          go_wp2_with fail
          go_roundw
          case rel => exact ⟨j - 1, _, _, by have := HLT.out; have e : ((j - 1 : Nat) : Int) = (j : Int) - 1 := (by omega); rw [e], by have := HJ.out; omega, OK9.out, by have := HKK.out; have := HLT.out; omega, D9.out⟩
          case measure => have := HLT.out; simp [intOf]; omega
    · have hI : ¬ (0 : Int) < (j : Int) := by omega
      have L12 : Hid (rs.length ≤ 12) := (cfV_apart HC.out).2
      clear hlt
      by_cases hz : un = 0
      · subst hz
        go_wp2_with fail
        go_ret
        first
          | exact ⟨_, _, rs, rfl, by have := L12.out; omega, DB.out.qq, DB.out.tn, by have := HKK.out; omega, DB.out.src⟩
          | exact ⟨_, rfl, _, rs, by have := L12.out; omega, DB.out.qq, DB.out.tn, by have := HKK.out; omega, DB.out.src⟩
      obtain ⟨y1, rfl⟩ := HYA.out (by omega)
      obtain ⟨q, r, rfl⟩ : ∃ q r, rs = q :: r := by
        cases rs with
        | nil => have := LR.out; simp at this; omega
        | cons q r => exact ⟨q, r, rfl⟩
      have LR1 : Hid (un = r.length + 1) := by have := LR.out; simp at this; show _ = _; omega
      have hz2 : 0 < un := by omega
      have hz3 : (0 : Int) < (un : Int) := by omega
      have hz4 : ¬ (un : Int) = 0 := by omega
      clear hz HYA
      go_wp2_with fail
      refine (next_any DB.out.src (by have := HK.out; have := HKK.out; omega) _).mono ?_
      rintro e u1 ⟨x, rfl, hx, -, t1, s1⟩
      have D1 : Hid (Dq w u1 b (kk + 1) a len cap zs base g lc ps (.slice (some ⟨y1, 0, none⟩) un yc) (q :: r)) := DB.out.turn t1 s1
      clear t1 s1 hx DB
      have LR2 : Hid (r.length ≤ 11) := by have := L12.out; simp at this; show _ ≤ _; omega
      by_cases x0 : x = 0
      · subst x0
        have D2 : Hid (Dq w (u1.alloc (.cells #[.int .i64 (-1), .int .i64 10] 2)) b (kk + 1) a len cap zs base g lc ps (.slice (some ⟨y1, 0, none⟩) un yc) (q :: r)) := D1.out.new _
        go_wp2_with fail
        refine (pick_any D2.out.src (by have := HK.out; have := HKK.out; omega) (fun _ => True) _ 2 (by decide) (by decide) (by simp) (by have := D1.out.src.here; omega) (lits2 _ _ _ _)).mono ?_
        rintro e u2 ⟨z, rfl, -, t1, s1⟩
        have D3 : Hid (Dq w u2 b (kk + 1 + 1) a len cap zs base g lc ps (.slice (some ⟨y1, 0, none⟩) un yc) (q :: r)) := D2.out.turn t1 s1
        clear t1 s1
        have cc : u2.cell? ⟨y1, 0, none⟩ = some (.int .i64 q.tag) := by have := (D3.out.qq.cell (by have := LR1.out; simp; omega) 0 hz2).1; simpa using this
        have ff : u2.frozen? ⟨y1, 0, none⟩ = false := World.ownsRow.frozenAt (by have h := D3.out.qq; rw [LR1.out] at h; exact h) 0
        go_wp2_with fail
        go_ret
        have hy := D3.out.qq.lt y1 rfl
        refine ⟨_, kk + 1 + 1, _, rfl, by have := LR2.out; simp; omega, D3.out.qq.set0 LR1.out z, ?_, by have := HKK.out; omega, ?_⟩
        · exact turnq_put D3.out.tn _ _ hy.1
        · exact srcq_put D3.out.src _ _ (by have := D3.out.hB; show b < y1; omega)
      by_cases x1 : x = 1
      · subst x1
        have D2 : Hid (Dq w (u1.alloc (.cells #[.int .i64 0, .int .i64 8] 2)) b (kk + 1) a len cap zs base g lc ps (.slice (some ⟨y1, 0, none⟩) un yc) (q :: r)) := D1.out.new _
        go_wp2_with fail
        refine (pick_any D2.out.src (by have := HK.out; have := HKK.out; omega) (fun _ => True) _ 2 (by decide) (by decide) (by simp) (by have := D1.out.src.here; omega) (lits2 _ _ _ _)).mono ?_
        rintro e u2 ⟨z, rfl, -, t1, s1⟩
        have D3 : Hid (Dq w u2 b (kk + 1 + 1) a len cap zs base g lc ps (.slice (some ⟨y1, 0, none⟩) un yc) (q :: r)) := D2.out.turn t1 s1
        clear t1 s1
        have cc : u2.cell? ⟨y1, 3, none⟩ = some (.int .i64 q.kinds) := by have := (D3.out.qq.cell (by have := LR1.out; simp; omega) 0 hz2).2.2.2; simpa using this
        have ff : u2.frozen? ⟨y1, 3, none⟩ = false := World.ownsRow.frozenAt (by have h := D3.out.qq; rw [LR1.out] at h; exact h) 3
        go_wp2_with fail
        go_ret
        have hy := D3.out.qq.lt y1 rfl
        refine ⟨_, kk + 1 + 1, _, rfl, by have := LR2.out; simp; omega, D3.out.qq.set3 LR1.out z, ?_, by have := HKK.out; omega, ?_⟩
        · exact turnq_put D3.out.tn _ _ hy.1
        · exact srcq_put D3.out.src _ _ (by have := D3.out.hB; show b < y1; omega)
      by_cases x2 : x = 2
      · subst x2
        have cs := D1.out.qq.cell (by have := LR1.out; simp; omega) 0 hz2
        have h0 : u1.cell? ⟨y1, 0, none⟩ = some (.int .i64 q.tag) := by simpa using cs.1
        have h1 : u1.cell? ⟨y1, 1, none⟩ = some (.int .i64 q.page) := by simpa using cs.2.1
        have h2 : u1.cell? ⟨y1, 2, none⟩ = some (.int .i64 q.to) := by simpa using cs.2.2.1
        have h3 : u1.cell? ⟨y1, 3, none⟩ = some (.int .i64 q.kinds) := by simpa using cs.2.2.2
        clear cs
        go_wp2_with (at_builtin; refine wp_quad 24 65 Try.underlying24 info_hit _ rfl _ _ rfl w.heap.size _ (q :: r) rfl (D1.out.qq.keep (al (Below.refl _ _) _)) u1.heap.size q rfl (cell_new rfl) (cell_new rfl) (cell_new rfl) (cell_new rfl) (by have := LR2.out; simp; omega) (by have := D1.out.tn.size; simp; omega) ?_; intro v' w' hN' hG'; have NN : Hid (Qs 65 w' w.heap.size v' (q :: r ++ [q])) := hN'; have OW : ∀ k, (Value.slice (some ⟨y1, 0, none⟩) un yc).ownBlock = some k → w.heap.size ≤ k := (fun k e => (D1.out.qq.lt k e).1); have TT : Hid (Turn b w w') := turnq_grown (D1.out.new _).tn hG' OW; have SS : Hid (Src w' b (kk + 1) a len cap zs) := srcq_grown (D1.out.new _).src hG' (fun k e => by have := OW k e; have := D1.out.hB; omega); clear hN' hG' OW)
        go_ret
        first
          | exact ⟨_, kk + 1, _, rfl, by have := LR2.out; simp; omega, NN.out, TT.out, by have := HKK.out; omega, SS.out⟩
          | exact ⟨_, rfl, kk + 1, _, by have := LR2.out; simp; omega, NN.out, TT.out, by have := HKK.out; omega, SS.out⟩
      by_cases x3 : x = 3
      · subst x3
        obtain ⟨ti, hi, hz0, hz1, hz2⟩ := info_parts info_hit
        go_wp2_with (at_make; refine wpList_make_full _ rfl _ _ 24 rfl u1.heap.size 65 ti _ 4 Try.underlying24 hi hz0 hz1 _ _ _ _ 13 rfl rfl rfl rfl (by rw [hz2]; omega) (by unfold maxLen; omega) (Nat.le_refl _) ?_; intro p8 hown hgrow; have bl : Below u1.heap.size u1 p8 := (Below.refl _ _).grown hgrow (Nat.le_refl _) (by simp); have HOW : Hid (_) := hown; have D2 : Hid (Dq w p8 b (kk + 1) a len cap zs base g lc ps _ _) := D1.out.turn (Turn.of_below bl) (D1.out.src.turn (Turn.of_below (b := u1.heap.size) bl) (Nat.le_refl _)); clear hown hgrow)
        go_ret
        have NO : Qs 65 p8 u1.heap.size (.slice (some ⟨u1.heap.size, 0, none⟩) 13 13) (List.replicate 13 qz) := by
          have e13 : (madeCells qz.val.cells (13 * 4)).toList = flat4 (List.replicate 13 qz) := by kernel_rfl
          have h := HOW.out
          rw [e13] at h
          exact h
        first
          | exact ⟨_, kk + 1, _, rfl, by simp, NO.mono D1.out.tn.size, D2.out.tn, by have := HKK.out; omega, D2.out.src⟩
          | exact ⟨_, rfl, kk + 1, _, by simp, NO.mono D1.out.tn.size, D2.out.tn, by have := HKK.out; omega, D2.out.src⟩
      go_wp2_with fail
      go_ret
      first
        | exact ⟨_, _, _, rfl, by have := L12.out; omega, D1.out.qq, D1.out.tn, by have := HKK.out; omega, D1.out.src⟩
        | exact ⟨_, rfl, _, _, by have := L12.out; omega, D1.out.qq, D1.out.tn, by have := HKK.out; omega, D1.out.src⟩

theorem lits5 (w : World) (t : TypeId) : ∀ i, i < 5 → ∃ v : Int, (w.alloc (.cells #[.int .i64 0, .int .i64 1, .int .i64 2, .int .i64 9, .int .i64 10] t)).cell? ⟨w.heap.size, i, none⟩ = some (.int .i64 v) ∧ True := by
  intro i hi
  have e : i = 0 ∨ i = 1 ∨ i = 2 ∨ i = 3 ∨ i = 4 := by omega
  rcases e with rfl | rfl | rfl | rfl | rfl
  · exact ⟨0, cell_new rfl, trivial⟩
  · exact ⟨1, cell_new rfl, trivial⟩
  · exact ⟨2, cell_new rfl, trivial⟩
  · exact ⟨9, cell_new rfl, trivial⟩
  · exact ⟨10, cell_new rfl, trivial⟩
/-- A cache that was drawn, and what is drawn behind it: the source b, the answer's place R. -/
structure Dr (w0 v : World) (R b k : Nat) (a : Option Addr) (len cap : Nat) (zs : List Int) (y : Value) (rs : List Qd) : Prop where
  src : Src v b k a len cap zs
  qq : Qs 65 v (b + 1) y rs
  res : Vb v R #[.int .i64 0, .int .i64 0, .int .i64 0, .int .i64 0] 65
  g : Below w0.heap.size w0 v
  hR : w0.heap.size = R
  hb : R < b
theorem Dr.turn {w0 v v' : World} {R b k k' : Nat} {a : Option Addr} {len cap : Nat} {zs : List Int} {y : Value} {rs : List Qd} (h : Dr w0 v R b k a len cap zs y rs) (t : Turn b v v') (s : Src v' b k' a len cap zs) : Dr w0 v' R b k' a len cap zs y rs :=
  ⟨s, h.qq.turn t (by omega), (t.block R h.res.lt (by have := h.hb; omega)).trans h.res, h.g.trans (t.below (by have := h.hR; have := h.hb; omega) h.g.size), h.hR, h.hb⟩

end Go.Proofs.Ytaajaikpkcgalaa
