/- Texts of this seat, joined. -/
import Derived.Test.YtaefollmeoepkaaGreatDoorQ03
import Derived.Test.YtaefollmeoepkaaGreatDoorQ04
import Derived.Test.YtaefollmeoepkaaGreatDoorQ35
namespace Go.Proofs.YtaefollmeoepkaaGreatDoor
set_option maxRecDepth 20000
set_option maxHeartbeats 16000000
open Go.RowKit
set_option linter.unusedVariables false
theorem Nums.turn7 {w w' : World} {base b : Nat} {v : Value} {zs : List Int} (h : Nums w base v zs) (t : Turn b w w') (hb : b < base) : Nums w' base v zs := by
 refine h.kept (row := some b) ⟨t.os, t.tape, t.output, t.size, fun k hk hn => t.block k hk (fun e => hn (by rw [e]))⟩ (.inr fun e => ?_)
 have := (h.lt b e).1
 omega
theorem Turn.grown7 {b : Nat} {w0 w w' : World} {row : Option Nat} (t : Turn b w0 w) (g : w.grownBy w' row) (hr : ∀ k, row = some k → w0.heap.size ≤ k) : Turn b w0 w' :=
 ⟨g.os.trans t.os, g.tape.trans t.tape, g.output.trans t.output, Nat.le_trans t.size g.size, fun k hk hb => (g.block k (Nat.lt_of_lt_of_le hk t.size) (fun e => by have := hr k e.symm; omega)).trans (t.block k hk hb)⟩
theorem Src.grown7 {w w' : World} {b k : Nat} {a : Option Addr} {len cap : Nat} {zs : List Int} {row : Option Nat} (s : Src w b k a len cap zs) (g : w.grownBy w' row) (hr : ∀ k, row = some k → b < k) : Src w' b k a len cap zs := by
 have h := s.here
 have hne : ∀ p : Nat, p ≤ b → some p ≠ row := fun p hp e => by have := hr p e.symm; omega
 refine ⟨cell_grown g s.code (hne b (Nat.le_refl _)), cell_grown g s.count (hne b (Nat.le_refl _)), ?_, ?_, s.away, Nat.lt_of_lt_of_le h g.size⟩
 ·rw [← s.free]
  exact World.frozen?_of_block (w := w) (g.block b h (hne b (Nat.le_refl _)))
 ·rcases s.row with h | ⟨x, rfl, h1, h2, h3, h4, h5⟩
  ·exact .inl h
  ·refine .inr ⟨x, rfl, h1, h2, h3, fun i hi => ?_, h5⟩
   have hx := s.away x rfl (by omega)
   exact cell_grown g (h4 i hi) (by rw [src_block]; exact hne _ (by omega))
theorem Rn.one7 {w : World} {g : Nat} {z : Int} (h : w.cell? ⟨g, 0, none⟩ = some (.int .i64 z)) : Rn w (some ⟨g, 0, none⟩) 1 1 [z] := by
 refine .inr ⟨_, rfl, Nat.le_refl _, by unfold maxLen; decide, rfl, fun i hi => ?_⟩
 obtain rfl : i = 0 := by omega
 exact h
variable {w : World} {b k : Nat} {a : Option Addr} {len cap : Nat} {zs : List Int}
theorem image_any (s : Src w b k a len cap zs) (hk : k ≤ 30000) (n : Int) (hn : n ≤ 100) (hn0 : -1000 ≤ n) :
  Calls Tryz.prog 52 #[.pointer (some ⟨b, 0, none⟩), .int .i64 n] w fun e w' => ∃ (v : Value) (xs : List Int) (k' : Nat), e = .returned v ∧ Nums w' w.heap.size v xs ∧ xs.length = n.toNat ∧ Turn b w w' ∧ Src w' b k' a len cap zs ∧ k' ≤ k + 20 * n.toNat := by
 have fv := field_value
 have HH : Hid (b < w.heap.size) := s.here
 have N0 : Hid (Nums (w.alloc (.cells #[] 2)) w.heap.size (.slice (some ⟨w.heap.size, 0, none⟩) 0 0) []) := nums_none w _ (Nat.le_refl _)
 have S0 : Hid (Src (w.alloc (.cells #[] 2)) b k a len cap zs) := s.alloc _
 have T0 : Hid (Turn b w (w.alloc (.cells #[] 2))) := Turn.alloc b w _
 obtain ⟨N, hN⟩ : ∃ N : Nat, n.toNat = N := ⟨_, rfl⟩
 have HNN : Hid (n.toNat = N ∧ n ≤ 100 ∧ k ≤ 30000) := ⟨hN, hn, hk⟩
 rw [hN]
 clear s hk
 by_cases hpos : n ≤ 0
 ·have hz : ¬ 0 < n := by omega
  have hN0 : N = 0 := by omega
  subst hN0
  clear hN
  go_enter Tryz.func52, Tryz.ntmps52
  go_wp2_with fail
  generalize w.alloc (.cells #[] 2) = W at *
  go_loopw [1, 5, 6] (fun c u _ wr => c = .int .i64 n ∧ u = .slice (some ⟨w.heap.size, 0, none⟩) 0 0 ∧ wr = W) (fun _ _ _ _ => 0)
  case atStart => exact ⟨rfl, rfl, rfl⟩
  case round =>
   obtain ⟨rfl, rfl, rfl⟩ := hrel
   go_wp2_with fail
   go_ret
   exact ⟨_, _, _, rfl, N0.out, rfl, T0.out, S0.out, by omega⟩
 ·obtain rfl : n = N := by omega
  clear hN hpos hn hn0
  go_enter Tryz.func52, Tryz.ntmps52
  go_wp2_with fail
  generalize w.alloc (.cells #[] 2) = W at *
  go_loopw [1, 5, 6] (fun c u _ wr => ∃ (j k' : Nat) (xs : List Int), j ≤ N ∧ c = .int .i64 j ∧ xs.length + j = N ∧ k' + 20 * j ≤ k + 20 * N ∧ Nums wr w.heap.size u xs ∧ Turn b w wr ∧ Src wr b k' a len cap zs) (fun c _ _ _ => (intOf c).toNat)
  case atStart => exact ⟨N, k, [], Nat.le_refl _, rfl, by simp, by omega, N0.out, T0.out, S0.out⟩
  case round =>
   obtain ⟨j, k', xs, hj, rfl, hxs, hk', hN, hT, hS⟩ := hrel
   have NJ := hid hN
   have TJ := hid hT
   have SJ := hid hS
   have HX : Hid (xs.length + j = N ∧ k' + 20 * j ≤ k + 20 * N ∧ j ≤ N ∧ N ≤ 100 ∧ k ≤ 30000) := ⟨hxs, hk', hj, by have := HNN.out; omega, by have := HNN.out; omega⟩
   clear hN hT hS hxs hk' N0 T0 S0
   by_cases hlt : 0 < j
   ·have hJ : 0 < (j : Int) := by omega
    have hJ2 : (j : Int) ≤ 100 := by have := HX.out; omega
    have HLT := hid hlt
    clear hlt hj
    go_wp2_with fail
    refine (ins7_any SJ.out (by have := HX.out; omega)).mono ?_
    rintro e w1 ⟨o1, d1, x1, i1, k1, rfl, t1, s1, hk1⟩
    have N1 : Hid (Nums w1 w.heap.size u5 xs) := NJ.out.turn7 t1 HH.out
    have T1 : Hid (Turn b w w1) := TJ.out.trans t1
    have S1 := hid s1
    have HK1 := hid hk1
    clear t1 s1 hk1 NJ TJ SJ
    go_wp2_with fail
    refine (spec_encode o1 d1 x1 i1 w1).mono ?_
    rintro e w2 ⟨rfl, b2⟩
    have N2 := hid (N1.out.keep b2)
    have T2 : Hid (Turn b w w2) := T1.out.trans (Turn.of_below b2)
    have S2 := hid (S1.out.stay b2)
    clear b2 N1 T1 S1
    generalize encV o1 d1 x1 i1 = ev
    go_wp2_with fail
    refine (chance_any S2.out (by have := HX.out; have := HK1.out; omega) _).mono ?_
    rintro e w3 ⟨c3, rfl, t3, s3⟩
    have N3 : Hid (Nums w3 w.heap.size u5 xs) := N2.out.turn7 t3 HH.out
    have T3 : Hid (Turn b w w3) := T2.out.trans t3
    have S3 := hid s3
    clear t3 s3 N2 T2 S2
    have hend : ∀ (z : Int) (w4 : World) (k4 : Nat), Nums w4 w.heap.size u5 xs → Turn b w w4 → Src w4 b k4 a len cap zs → k4 ≤ k1 + 6 → True := fun _ _ _ _ _ _ _ => trivial
    clear hend
    cases c3
    ·go_wp2_with (at_builtin; refine wp_appx _ rfl _ _ rfl w.heap.size u5 _ rfl (N3.out.keep (al (Below.refl _ _) _)) _ 1 1 [ev] rfl (Rn.one7 (cell_new rfl)) (by have := HX.out; omega) (by have := T3.out.size; simp; omega) ?_; intro v' w' hN' hG')
     have N4 : Hid (Nums w' w.heap.size v' (xs ++ [ev])) := hN'
     have T4 : Hid (Turn b w w') := (T3.out.trans (Turn.alloc b _ _)).grown7 hG' (fun q hq => by have := (N3.out.lt q hq).1; omega)
     have S4 : Hid (Src w' b (k1 + 1) a len cap zs) := (S3.out.alloc _).grown7 hG' (fun q hq => by have := (N3.out.lt q hq).1; have := HH.out; omega)
     clear hN' hG'
     go_wp2_with fail
     go_roundw
     case rel => exact ⟨j - 1, k1 + 1, xs ++ [ev], by have := HX.out; omega, by have := HLT.out; rw [show ((j - 1 : Nat) : Int) = (j : Int) - 1 by omega], by have := HX.out; have := HLT.out; simp; omega, by have := HX.out; have := HK1.out; have := HLT.out; omega, N4.out, T4.out, S4.out⟩
     case measure => have := HLT.out; show ((j : Int) - 1).toNat < ((j : Int)).toNat; omega
    ·go_wp2_with fail
     refine (word_any S3.out (by have := HX.out; have := HK1.out; omega)).mono ?_
     rintro e w4 ⟨v4, rfl, h4, t4, s4⟩
     have N3b : Hid (Nums w4 w.heap.size u5 xs) := N3.out.turn7 t4 HH.out
     have T3b : Hid (Turn b w w4) := T3.out.trans t4
     have S3b := hid s4
     clear t4 s4 h4 N3 T3 S3
     go_wp2_with (at_builtin; refine wp_appx _ rfl _ _ rfl w.heap.size u5 _ rfl (N3b.out.keep (al (Below.refl _ _) _)) _ 1 1 [v4] rfl (Rn.one7 (cell_new rfl)) (by have := HX.out; omega) (by have := T3b.out.size; simp; omega) ?_; intro v' w' hN' hG')
     have N4 : Hid (Nums w' w.heap.size v' (xs ++ [v4])) := hN'
     have T4 : Hid (Turn b w w') := (T3b.out.trans (Turn.alloc b _ _)).grown7 hG' (fun q hq => by have := (N3b.out.lt q hq).1; omega)
     have S4 : Hid (Src w' b (k1 + 1 + 5) a len cap zs) := (S3b.out.alloc _).grown7 hG' (fun q hq => by have := (N3b.out.lt q hq).1; have := HH.out; omega)
     clear hN' hG'
     go_wp2_with fail
     go_roundw
     case rel => exact ⟨j - 1, k1 + 1 + 5, xs ++ [v4], by have := HX.out; omega, by have := HLT.out; rw [show ((j - 1 : Nat) : Int) = (j : Int) - 1 by omega], by have := HX.out; have := HLT.out; simp; omega, by have := HX.out; have := HK1.out; have := HLT.out; omega, N4.out, T4.out, S4.out⟩
     case measure => have := HLT.out; show ((j : Int) - 1).toNat < ((j : Int)).toNat; omega
   ·obtain rfl : j = 0 := by omega
    clear hlt hj
    go_wp2_with fail
    go_ret
    exact ⟨_, xs, k', rfl, NJ.out, by have := HX.out; omega, TJ.out, SJ.out, by have := HX.out; omega⟩
theorem lits_at (w : World) (l : List Int) (t : TypeId) {m : Nat} (hm : m = l.length) : ∀ i, i < m → ∃ v : Int, (w.alloc (.cells (l.map (Value.int .i64)).toArray t)).cell? ⟨w.heap.size, i, none⟩ = some (.int .i64 v) ∧ True := by
 intro i hi
 subst hm
 exact ⟨l[i], cell_new (by simp), trivial⟩
theorem lits_turn {w w' : World} {b bl m : Nat} (t : Turn b w w') (hne : bl ≠ b) (h : ∀ i, i < m → ∃ v : Int, w.cell? ⟨bl, i, none⟩ = some (.int .i64 v) ∧ True) : ∀ i, i < m → ∃ v : Int, w'.cell? ⟨bl, i, none⟩ = some (.int .i64 v) ∧ True := by
 intro i hi
 obtain ⟨v, hv, -⟩ := h i hi
 refine ⟨v, ?_, trivial⟩
 have hl : bl < w.heap.size := block_of_cell hv
 have hb := t.block bl hl hne
 unfold World.cell? at *
 show (match w'.heap[bl]? with | _ => _) = _
 rw [hb]
 exact hv
theorem Dh.csr {w0 v : World} {b k : Nat} {a : Option Addr} {len cap : Nat} {zs : List Int} {R q y kr : Nat} {r i o : Value} {H : Ht} (h : Dh w0 v b k a len cap zs R q r (.slice (some ⟨y, 0, none⟩) 11 kr) i o H) (n : Nat) (u : Int) :
  Dh w0 (v.setCell ⟨y, n, none⟩ (.int .i64 u)) b k a len cap zs R q r (.slice (some ⟨y, 0, none⟩) 11 kr) i o { H with csr := H.csr.set n u } := by
 have hy := (h.m.c.lt y rfl).1
 have hb := h.hb; have hR := h.hR
 exact ⟨src_put h.src _ _ (by show b < y; omega), ⟨h.m.r.put _ _ (apt_ne h.ap.rc.swap rfl), (h.m.c.store n u).1, h.m.i.put _ _ (apt_ne h.ap.ci rfl), h.m.o.put _ _ (apt_ne h.ap.co rfl)⟩, h.ap, h.var.put _ _ (fun e => h.nq y (.inr (.inl rfl)) e.symm), h.res.put _ _ (by show R ≠ y; omega), turn_put h.g _ _ (by show w0.heap.size ≤ y; omega), h.nq, h.hb, h.hq, h.hR, h.r16, by simpa using h.c11⟩
theorem Dh.newIn {w0 v v' : World} {b k : Nat} {a : Option Addr} {len cap : Nat} {zs : List Int} {R q : Nat} {r c i o i' : Value} {H : Ht} {ys : List Int} (h : Dh w0 v b k a len cap zs R q r c i o H) (n : Nums v' v.heap.size i' ys) (bl : Below v.heap.size v v') :
  Dh w0 (v'.setCell ⟨q, 7, none⟩ i') b k a len cap zs R q r c i' o { H with inn := ys } := by
 have hb := h.hb; have hq := h.hq; have hR := h.hR
 have hql := h.var.lt
 have m := h.m.keep bl
 have nq : ∀ x, Own4 r c i' o x → x ≠ q := fun x e => by
  rcases e with e | e | e | e
  ·exact h.nq x (.inl e)
  ·exact h.nq x (.inr (.inl e))
  ·have := (n.lt x e).1; omega
  ·exact h.nq x (.inr (.inr (.inr e)))
 exact ⟨src_put (h.src.turn (Turn.of_below (b := v.heap.size) bl) (Nat.le_refl _)) _ _ (by show b < q; omega), ⟨m.r.put _ _ (fun e => nq q (.inl e) rfl), m.c.put _ _ (fun e => nq q (.inr (.inl e)) rfl), (n.put _ _ (fun e => nq q (.inr (.inr (.inl e))) rfl)).mono (by omega), m.o.put _ _ (fun e => nq q (.inr (.inr (.inr e))) rfl)⟩,
  ⟨h.ap.rc, h.m.r.apt n (Nat.le_refl _), h.ap.ro, h.m.c.apt n (Nat.le_refl _), h.ap.co, (h.m.o.apt n (Nat.le_refl _)).swap⟩, (h.var.keep bl).set 7 _, (h.res.keep bl).put _ _ (by show R ≠ q; omega), turn_put (h.g.trans (Turn.of_below bl)) _ _ (by show w0.heap.size ≤ q; omega), nq, h.hb, h.hq, h.hR, h.r16, h.c11⟩
theorem hbent_csr (s : Src w b k a len cap zs) (hk : k ≤ 40000) :
  Calls Tryz.prog 48 #[.pointer (some ⟨b, 0, none⟩)] w fun e w' => ∃ a0 m0 k0 a1 m1 k1 a2 m2 k2 a3 m3 k3 H, e = .returned (.agg #[.slice a0 m0 k0, .int .i64 H.pc, .slice a1 m1 k1, .bool H.halted, .bool H.waiting, .bool H.rung, .int .i64 H.done, .slice a2 m2 k2, .slice a3 m3 k3]) ∧ ((Hm w' w.heap.size (.slice a0 m0 k0) (.slice a1 m1 k1) (.slice a2 m2 k2) (.slice a3 m3 k3) H ∧ Ha (.slice a0 m0 k0) (.slice a1 m1 k1) (.slice a2 m2 k2) (.slice a3 m3 k3)) ∨ (m0 = 15 ∧ m1 = 11 ∧ ∃ y, a1 = some ⟨y, 0, none⟩ ∧ H.csr.length = 11 ∧ Nums w' w.heap.size (.slice (some ⟨y, 0, none⟩) 11 k1) H.csr)) ∧ Turn b w w' ∧ ∃ k', k' ≤ k + 1100 ∧ Src w' b k' a len cap zs := by
 have HK := hid hk
 obtain ⟨R, hR⟩ : ∃ R, w.heap.size = R := ⟨_, rfl⟩
 have HR := hid hR
 have BR : Hid (b < R) := by show _ < _; rw [← hR]; exact s.here
 generalize hW : w.alloc (.cells #[.slice none 0 0, .int .i64 0, .slice none 0 0, .bool false, .bool false, .bool false, .int .i64 0, .slice none 0 0, .slice none 0 0] 26) = W
 have VR : Hid (Vb W R #[.slice none 0 0, .int .i64 0, .slice none 0 0, .bool false, .bool false, .bool false, .int .i64 0, .slice none 0 0, .slice none 0 0] 26) := by show Vb _ _ _ _; rw [← hW, ← hR]; exact Vb.new _ _ _
 have SW : Hid (Src W b k a len cap zs) := by show Src _ _ _ _ _ _ _; rw [← hW]; exact s.alloc _
 have TW : Hid (Turn b w W) := by show Turn _ _ _; rw [← hW]; exact Turn.alloc _ _ _
 clear s
 go_enter Tryz.func48, Tryz.ntmps48
 go_wp2_with fail
 clear hW hR
 refine (hart_any SW.out (by have := HK.out; omega)).mono ?_
 rintro e w2 ⟨r, c, i, o, H, rfl, m2, A2, h16, h11, t2, k', hk', s2⟩
 obtain ⟨a0, k0, rfl, hk00, _, g0⟩ := m2.r.shape
 obtain ⟨a1, k1, rfl, _, _, g1⟩ := m2.c.shape
 obtain ⟨a2, k2, rfl, _⟩ := m2.i.shape
 obtain ⟨a3, k3, rfl, _⟩ := m2.o.shape
 obtain ⟨y0, rfl⟩ := g0 (by omega)
 obtain ⟨y1, rfl⟩ := g1 (by omega)
 rw [h16] at m2 A2 hk00 ⊢
 rw [h11] at m2 A2 ⊢
 generalize H.inn.length = n2 at *
 generalize H.out.length = n3 at *
 have KB : Hid (k' ≤ k + 1000) := hk'
 obtain ⟨q, hq⟩ : ∃ q, w2.heap.size = q := ⟨_, rfl⟩
 have D0 : Hid (Dh w (w2.alloc (.cells #[.slice (some ⟨y0, 0, none⟩) 16 k0, .int .i64 H.pc, .slice (some ⟨y1, 0, none⟩) 11 k1, .bool H.halted, .bool H.waiting, .bool H.rung, .int .i64 H.done, .slice a2 n2 k2, .slice a3 n3 k3] 26)) b (k') a len cap zs R q (.slice (some ⟨y0, 0, none⟩) 16 k0) (.slice (some ⟨y1, 0, none⟩) 11 k1) (.slice a2 n2 k2) (.slice a3 n3 k3) H) := by
  have hRR := HR.out; have hBR := BR.out; have hl := VR.out.lt; have ht := t2.size
  refine ⟨s2.alloc _, (m2.keep (al (Below.refl _ _) _)).mono (by omega), A2, by rw [← hq]; exact Vb.new _ _ _, ((turn_mq t2).vb VR.out (by omega)).push _, (TW.out.trans t2).trans (Turn.alloc _ _ _), fun x e f => by have := (m2.own x e).2; omega, hBR, by omega, by omega, h16, h11⟩
 have K0 := hid hk00
 clear m2 A2 h16 h11 t2 hk' s2 g0 g1
 go_wp2_with fail
 generalize w2.alloc (.cells #[.slice (some ⟨y0, 0, none⟩) 16 k0, .int .i64 H.pc, .slice (some ⟨y1, 0, none⟩) 11 k1, .bool H.halted, .bool H.waiting, .bool H.rung, .int .i64 H.done, .slice a2 n2 k2, .slice a3 n3 k3] 26) = W2 at *
 clear hq
 refine (next_any D0.out.src (by have := KB.out; have := HK.out; omega) _).mono ?_
 rintro e u1 ⟨x1, rfl, hx1, -, t1, s1⟩
 have D1 := hid (D0.out.turn t1 s1)
 clear t1 s1 hx1
 by_cases e0 : x1 = 0
 ·subst e0
  have c := D1.out.m.r.cell D1.out.r16.symm 0 (by decide)
  have f := D1.out.m.r.free D1.out.r16.symm 0
  have v0 := D1.out.var.cell 0 rfl
  have D4 : Hid (Dh w (u1.setCell ⟨y0, 0, none⟩ (.int .i64 1)) b (k' + 1) a len cap zs R q (.slice (some ⟨y0, 0, none⟩) 16 k0) (.slice (some ⟨y1, 0, none⟩) 11 k1) (.slice a2 n2 k2) (.slice a3 n3 k3) { H with regs := H.regs.set 0 1 }) := D1.out.reg 0 1
  go_upto_region 15 with fail
  generalize u1.setCell ⟨y0, 0, none⟩ (.int .i64 1) = u4 at *
  clear c f v0
  obtain ⟨G, hG⟩ : ∃ G, ({ H with regs := H.regs.set 0 1 } : Ht) = G := ⟨_, rfl⟩
  rw [hG] at D4
  clear hG
  obtain ⟨l0, l1, l2, l3, l4, l5, l6, l7, l8⟩ := zc9 D4.out.var
  obtain ⟨r0, r1, r2, r3, r4, r5, r6, r7, r8⟩ := zc9 D4.out.res
  obtain ⟨f0, f1, f2, f3, f4, f5, f6, f7, f8⟩ := zf9 D4.out.res
  have NN : Hid (_ ∧ _) := nine D4.out.res (.slice (some ⟨y0, 0, none⟩) 16 k0) (.int .i64 G.pc) (.slice (some ⟨y1, 0, none⟩) 11 k1) (.bool G.halted) (.bool G.waiting) (.bool G.rung) (.int .i64 G.done) (.slice a2 n2 k2) (.slice a3 n3 k3)
  go_wp2_with fail
  clear l0 r0 f0 l1 r1 f1 l2 r2 f2 l3 r3 f3 l4 r4 f4 l5 r5 f5 l6 r6 f6 l7 r7 f7 l8 r8 f8
  generalize (((((((((u4.setCell ⟨R, 0, none⟩ (.slice (some ⟨y0, 0, none⟩) 16 k0)).setCell ⟨R, 1, none⟩ (.int .i64 G.pc)).setCell ⟨R, 2, none⟩ (.slice (some ⟨y1, 0, none⟩) 11 k1)).setCell ⟨R, 3, none⟩ (.bool G.halted)).setCell ⟨R, 4, none⟩ (.bool G.waiting)).setCell ⟨R, 5, none⟩ (.bool G.rung)).setCell ⟨R, 6, none⟩ (.int .i64 G.done)).setCell ⟨R, 7, none⟩ (.slice a2 n2 k2)).setCell ⟨R, 8, none⟩ (.slice a3 n3 k3)) = V at *
  obtain ⟨x0, x1, x2, x3, x4, x5, x6, x7, x8⟩ := zc9 NN.out.1
  have hb := D4.out.hb
  have hRR := D4.out.hR
  have hg := D4.out.g.size
  have TV : Turn b w V := ⟨NN.out.2.os.trans D4.out.g.os, NN.out.2.tape.trans D4.out.g.tape, NN.out.2.output.trans D4.out.g.output, Nat.le_trans D4.out.g.size NN.out.2.size, fun x hx hn => (NN.out.2.block x (Nat.lt_of_lt_of_le hx D4.out.g.size) (by omega)).trans (D4.out.g.block x hx hn)⟩
  have MV := NN.out.2.hm D4.out.m (fun x e f => by have := (D4.out.m.own x e).1; omega)
  exact bodyPost_ret (v := .agg #[.slice (some ⟨y0, 0, none⟩) 16 k0, .int .i64 G.pc, .slice (some ⟨y1, 0, none⟩) 11 k1, .bool G.halted, .bool G.waiting, .bool G.rung, .int .i64 G.done, .slice a2 n2 k2, .slice a3 n3 k3]) (by simp [results, Tryz.results48, go_sem, x0, x1, x2, x3, x4, x5, x6, x7, x8]) rfl
   ⟨_, _, _, _, _, _, _, _, _, _, _, _, G, rfl, .inl ⟨MV.mono (by omega), D4.out.ap⟩, TV, _, by have := KB.out; omega, src_mq D4.out.src NN.out.2 hb⟩
 by_cases e1 : x1 = 1
 ·subst e1
  have v0 := D1.out.var.cell 0 rfl
  have f0 := D1.out.var.free 0
  have hk0 : 16 ≤ k0 := K0.out
  have hRq := D1.out.hq
  have hbR := D1.out.hb
  have hRw := D1.out.hR
  have QV : Hid (Vb (u1.setCell ⟨q, 0, none⟩ (.slice (some ⟨y0, 1, none⟩) 15 (k0 - 1))) q #[.slice (some ⟨y0, 1, none⟩) 15 (k0 - 1), .int .i64 H.pc, .slice (some ⟨y1, 0, none⟩) 11 k1, .bool H.halted, .bool H.waiting, .bool H.rung, .int .i64 H.done, .slice a2 n2 k2, .slice a3 n3 k3] 26) := D1.out.var.set 0 _
  have QR : Hid (Vb (u1.setCell ⟨q, 0, none⟩ (.slice (some ⟨y0, 1, none⟩) 15 (k0 - 1))) R #[.slice none 0 0, .int .i64 0, .slice none 0 0, .bool false, .bool false, .bool false, .int .i64 0, .slice none 0 0, .slice none 0 0] 26) := D1.out.res.put _ _ (by show R ≠ q; omega)
  have QG : Hid (Turn b w (u1.setCell ⟨q, 0, none⟩ (.slice (some ⟨y0, 1, none⟩) 15 (k0 - 1)))) := turn_put D1.out.g _ _ (by show w.heap.size ≤ q; omega)
  have QC : Hid (Nums (u1.setCell ⟨q, 0, none⟩ (.slice (some ⟨y0, 1, none⟩) 15 (k0 - 1))) (R + 1) (.slice (some ⟨y1, 0, none⟩) 11 k1) H.csr) := D1.out.m.c.put _ _ (fun e => D1.out.nq q (.inr (.inl e)) rfl)
  have QL : Hid (H.csr.length = 11) := D1.out.c11
  have QS : Hid (Src (u1.setCell ⟨q, 0, none⟩ (.slice (some ⟨y0, 1, none⟩) 15 (k0 - 1))) b (k' + 1) a len cap zs) := src_put D1.out.src _ _ (by show b < q; omega)
  clear hRq hbR hRw
  go_upto_region 15 with fail
  generalize u1.setCell ⟨q, 0, none⟩ (.slice (some ⟨y0, 1, none⟩) 15 (k0 - 1)) = u4 at *
  clear v0 f0 hk0
  obtain ⟨G, hG⟩ : ∃ G, (H : Ht) = G := ⟨_, rfl⟩
  rw [hG] at QV QC QL
  clear hG
  obtain ⟨l0, l1, l2, l3, l4, l5, l6, l7, l8⟩ := zc9 QV.out
  obtain ⟨r0, r1, r2, r3, r4, r5, r6, r7, r8⟩ := zc9 QR.out
  obtain ⟨f0, f1, f2, f3, f4, f5, f6, f7, f8⟩ := zf9 QR.out
  have NN : Hid (_ ∧ _) := nine QR.out (.slice (some ⟨y0, 1, none⟩) 15 (k0 - 1)) (.int .i64 G.pc) (.slice (some ⟨y1, 0, none⟩) 11 k1) (.bool G.halted) (.bool G.waiting) (.bool G.rung) (.int .i64 G.done) (.slice a2 n2 k2) (.slice a3 n3 k3)
  go_wp2_with fail
  clear l0 r0 f0 l1 r1 f1 l2 r2 f2 l3 r3 f3 l4 r4 f4 l5 r5 f5 l6 r6 f6 l7 r7 f7 l8 r8 f8
  generalize (((((((((u4.setCell ⟨R, 0, none⟩ (.slice (some ⟨y0, 1, none⟩) 15 (k0 - 1))).setCell ⟨R, 1, none⟩ (.int .i64 G.pc)).setCell ⟨R, 2, none⟩ (.slice (some ⟨y1, 0, none⟩) 11 k1)).setCell ⟨R, 3, none⟩ (.bool G.halted)).setCell ⟨R, 4, none⟩ (.bool G.waiting)).setCell ⟨R, 5, none⟩ (.bool G.rung)).setCell ⟨R, 6, none⟩ (.int .i64 G.done)).setCell ⟨R, 7, none⟩ (.slice a2 n2 k2)).setCell ⟨R, 8, none⟩ (.slice a3 n3 k3)) = V at *
  obtain ⟨x0, x1, x2, x3, x4, x5, x6, x7, x8⟩ := zc9 NN.out.1
  have hb := D1.out.hb
  have hRR := D1.out.hR
  have hg := QG.out.size
  have TV : Turn b w V := ⟨NN.out.2.os.trans QG.out.os, NN.out.2.tape.trans QG.out.tape, NN.out.2.output.trans QG.out.output, Nat.le_trans QG.out.size NN.out.2.size, fun x hx hn => (NN.out.2.block x (Nat.lt_of_lt_of_le hx QG.out.size) (by omega)).trans (QG.out.block x hx hn)⟩
  exact bodyPost_ret (v := .agg #[.slice (some ⟨y0, 1, none⟩) 15 (k0 - 1), .int .i64 G.pc, .slice (some ⟨y1, 0, none⟩) 11 k1, .bool G.halted, .bool G.waiting, .bool G.rung, .int .i64 G.done, .slice a2 n2 k2, .slice a3 n3 k3]) (by simp [results, Tryz.results48, go_sem, x0, x1, x2, x3, x4, x5, x6, x7, x8]) rfl
   ⟨_, _, _, _, _, _, _, _, _, _, _, _, G, rfl, .inr ⟨rfl, rfl, y1, rfl, QL.out, (NN.out.2.nums QC.out (fun x e f => by have := (QC.out.lt x e).1; omega)).mono (by omega)⟩, TV, _, by have := KB.out; omega, src_mq QS.out NN.out.2 hb⟩
 by_cases e2 : x1 = 2
 ·subst e2
  go_upto_region 8 with fail
  have DR : Hid (Dh w u1.drew b (k' + 1) a len cap zs R q (.slice (some ⟨y0, 0, none⟩) 16 k0) (.slice (some ⟨y1, 0, none⟩) 11 k1) (.slice a2 n2 k2) (.slice a3 n3 k3) H) := D1.out.turn (Turn.of_below (Below.refl _ _).drew) (D1.out.src.turn (Turn.of_below (b := u1.heap.size) (Below.refl _ _).drew) (Nat.le_refl _))
  refine wp_region_held (S := fun w' => w'.cell? ⟨q, 2, none⟩ = some (.slice (some ⟨y1, 0, none⟩) 11 k1)) (by kernel_rfl) ?_
  change wpAnyH _ _ _ _ _ _ _ _ (World.drew _)
  generalize u1.drew = v1 at *
  have SD : Hid (v1.cell? ⟨q, 2, none⟩ = some (.slice (some ⟨y1, 0, none⟩) 11 k1)) := DR.out.var.cell 2 rfl
  refine wpTd 0 21 (.pointer (some ⟨q, 2, none⟩)) rfl SD.out ?_
  simp only [Act.put, zT, zZ, zS]
  refine wpTd 1 22 ((.slice (some ⟨y1, 0, none⟩) 11 k1)) rfl SD.out ?_
  simp only [Act.put, zT, zZ, zS]
  refine wpTd 2 23 (.pointer (some ⟨b, 0, none⟩)) rfl SD.out ?_
  simp only [Act.put, zT, zZ, zS]
  refine wpTd 4 25 (.pointer (some ⟨b, 0, none⟩)) rfl SD.out ?_
  simp only [Act.put, zT, zZ, zS]
  clear SD
  refine wpAnyH_ready (rs := [3, 5]) (by kernel_rfl) (by simp) ?_
  refine AllReadyH.cons rfl (fun K hK => ?_) (AllReadyH.cons rfl (fun K hK => ?_) AllReadyH.nil)
  ·skip
   rw [if_pos (by rfl)]
   go_simp
   refine (next_any DR.out.src (by have := KB.out; have := HK.out; omega) _).mono ?_
   rintro e u2 ⟨x2, rfl, hx2, -, t1, s1⟩
   obtain ⟨x20, x21⟩ := hx2 (by decide)
   obtain ⟨n, rfl⟩ := Int.eq_ofNat_of_zero_le x20
   have HN : Hid (n < 11) := by show _ < _; omega
   have hn11 : (n : Int) < 11 := by have := HN.out; omega
   have D2 := hid (DR.out.turn t1 s1)
   clear t1 s1 hx2 x20 x21
   refine hK.out _ _ (D2.out.var.cell 2 rfl) (fun _ => ?_)
   clear hK K
   refine zR 5 rfl fun K hK => ?_
   rw [if_pos (by rfl)]
   go_simp
   have D3 : Hid (Dh w (u2.alloc (.cells #[.int .i64 (-1), .int .i64 4, .int .i64 9, .int .i64 4294967296] 2)) b (k' + 1 + 1) a len cap zs R q (.slice (some ⟨y0, 0, none⟩) 16 k0) (.slice (some ⟨y1, 0, none⟩) 11 k1) (.slice a2 n2 k2) (.slice a3 n3 k3) H) := D2.out.turn (Turn.alloc _ _ _) (D2.out.src.alloc _)
   refine hK.out _ _ (D3.out.var.cell 2 rfl) (fun _ => ?_)
   clear hK K
   refine zR 6 rfl fun K hK => ?_
   rw [if_pos (by rfl)]
   go_simp
   refine (pick_any D3.out.src (by have := KB.out; have := HK.out; omega) (fun _ => True) _ 4 (by decide) (by decide) (by simp) (by have := D2.out.src.here; omega) (lits_at _ [-1, 4, 9, 4294967296] _ rfl)).mono ?_
   rintro e u6 ⟨x6, rfl, -, t1, s1⟩
   have D6 := hid (D3.out.turn t1 s1)
   clear t1 s1
   refine hK.out _ _ (D6.out.var.cell 2 rfl) (fun _ => ?_)
   clear hK K
   refine wpTk (i := 7) (v := .pointer (some ⟨y1, n, none⟩)) rfl (Or.inl ⟨by rfl, fun w' hs => by go_simp⟩) (D6.out.var.cell 2 rfl) ?_
   change wpAnyH _ _ _ _ _ _ _ (Act.put _ (some 28) _) _
   simp only [Act.put, zT, zZ, zS]
   have cj := D6.out.m.c.cell D6.out.c11.symm n HN.out
   have fj := D6.out.m.c.free D6.out.c11.symm n
   have D7 : Hid (Dh w (u6.setCell ⟨y1, n, none⟩ (.int .i64 x6)) b (k' + 1 + 1 + 1) a len cap zs R q (.slice (some ⟨y0, 0, none⟩) 16 k0) (.slice (some ⟨y1, 0, none⟩) 11 k1) (.slice a2 n2 k2) (.slice a3 n3 k3) { H with csr := H.csr.set n x6 }) := D6.out.csr n x6
   refine zR 8 rfl fun K hK => ?_
   rw [if_pos (by rfl)]
   go_simp
   refine hK.out _ _ (D7.out.var.cell 2 rfl) (fun _ => ?_)
   clear hK K
   refine wpAnyH_done (by kernel_rfl) ?_ _
   generalize u6.setCell ⟨y1, n, none⟩ (.int .i64 x6) = u7 at *
   clear cj fj
   go_upto_region 15 with fail
   obtain ⟨G, hG⟩ : ∃ G, ({ H with csr := H.csr.set n x6 } : Ht) = G := ⟨_, rfl⟩
   rw [hG] at D7
   clear hG
   obtain ⟨l0, l1, l2, l3, l4, l5, l6, l7, l8⟩ := zc9 D7.out.var
   obtain ⟨r0, r1, r2, r3, r4, r5, r6, r7, r8⟩ := zc9 D7.out.res
   obtain ⟨f0, f1, f2, f3, f4, f5, f6, f7, f8⟩ := zf9 D7.out.res
   have NN : Hid (_ ∧ _) := nine D7.out.res (.slice (some ⟨y0, 0, none⟩) 16 k0) (.int .i64 G.pc) (.slice (some ⟨y1, 0, none⟩) 11 k1) (.bool G.halted) (.bool G.waiting) (.bool G.rung) (.int .i64 G.done) (.slice a2 n2 k2) (.slice a3 n3 k3)
   go_wp2_with fail
   clear l0 r0 f0 l1 r1 f1 l2 r2 f2 l3 r3 f3 l4 r4 f4 l5 r5 f5 l6 r6 f6 l7 r7 f7 l8 r8 f8
   generalize (((((((((u7.setCell ⟨R, 0, none⟩ (.slice (some ⟨y0, 0, none⟩) 16 k0)).setCell ⟨R, 1, none⟩ (.int .i64 G.pc)).setCell ⟨R, 2, none⟩ (.slice (some ⟨y1, 0, none⟩) 11 k1)).setCell ⟨R, 3, none⟩ (.bool G.halted)).setCell ⟨R, 4, none⟩ (.bool G.waiting)).setCell ⟨R, 5, none⟩ (.bool G.rung)).setCell ⟨R, 6, none⟩ (.int .i64 G.done)).setCell ⟨R, 7, none⟩ (.slice a2 n2 k2)).setCell ⟨R, 8, none⟩ (.slice a3 n3 k3)) = V at *
   obtain ⟨x0, x1, x2, x3, x4, x5, x6, x7, x8⟩ := zc9 NN.out.1
   have hb := D7.out.hb
   have hRR := D7.out.hR
   have hg := D7.out.g.size
   have TV : Turn b w V := ⟨NN.out.2.os.trans D7.out.g.os, NN.out.2.tape.trans D7.out.g.tape, NN.out.2.output.trans D7.out.g.output, Nat.le_trans D7.out.g.size NN.out.2.size, fun x hx hn => (NN.out.2.block x (Nat.lt_of_lt_of_le hx D7.out.g.size) (by omega)).trans (D7.out.g.block x hx hn)⟩
   have MV := NN.out.2.hm D7.out.m (fun x e f => by have := (D7.out.m.own x e).1; omega)
   exact bodyPost_ret (v := .agg #[.slice (some ⟨y0, 0, none⟩) 16 k0, .int .i64 G.pc, .slice (some ⟨y1, 0, none⟩) 11 k1, .bool G.halted, .bool G.waiting, .bool G.rung, .int .i64 G.done, .slice a2 n2 k2, .slice a3 n3 k3]) (by simp [results, Tryz.results48, go_sem, x0, x1, x2, x3, x4, x5, x6, x7, x8]) rfl
    ⟨_, _, _, _, _, _, _, _, _, _, _, _, G, rfl, .inl ⟨MV.mono (by omega), D7.out.ap⟩, TV, _, by have := KB.out; omega, src_mq D7.out.src NN.out.2 hb⟩
  ·skip
   rw [if_pos (by rfl)]
   go_simp
   have D2 : Hid (Dh w (v1.alloc (.cells #[.int .i64 (-1), .int .i64 4, .int .i64 9, .int .i64 4294967296] 2)) b (k' + 1) a len cap zs R q (.slice (some ⟨y0, 0, none⟩) 16 k0) (.slice (some ⟨y1, 0, none⟩) 11 k1) (.slice a2 n2 k2) (.slice a3 n3 k3) H) := DR.out.turn (Turn.alloc _ _ _) (DR.out.src.alloc _)
   refine hK.out _ _ (D2.out.var.cell 2 rfl) (fun _ => ?_)
   clear hK K
   refine zR 3 rfl fun K hK => ?_
   rw [if_pos (by rfl)]
   go_simp
   refine (next_any D2.out.src (by have := KB.out; have := HK.out; omega) _).mono ?_
   rintro e u2 ⟨x2, rfl, hx2, -, t1, s1⟩
   obtain ⟨x20, x21⟩ := hx2 (by decide)
   obtain ⟨n, rfl⟩ := Int.eq_ofNat_of_zero_le x20
   have HN : Hid (n < 11) := by show _ < _; omega
   have hn11 : (n : Int) < 11 := by have := HN.out; omega
   have D3 := hid (D2.out.turn t1 s1)
   have LF : Hid (∀ i, i < 4 → ∃ v : Int, u2.cell? ⟨v1.heap.size, i, none⟩ = some (.int .i64 v) ∧ True) := lits_turn t1 (by have := DR.out.src.here; omega) (lits_at _ [-1, 4, 9, 4294967296] _ rfl)
   have LZ : Hid (v1.heap.size < u2.heap.size) := by have := t1.size; show _ < _; simp at this; omega
   clear t1 s1 hx2 x20 x21
   refine hK.out _ _ (D3.out.var.cell 2 rfl) (fun _ => ?_)
   clear hK K
   refine zR 6 rfl fun K hK => ?_
   rw [if_pos (by rfl)]
   go_simp
   refine (pick_any D3.out.src (by have := KB.out; have := HK.out; omega) (fun _ => True) _ 4 (by decide) (by decide) LZ.out (by have := DR.out.src.here; omega) LF.out).mono ?_
   rintro e u6 ⟨x6, rfl, -, t1, s1⟩
   have D6 := hid (D3.out.turn t1 s1)
   clear t1 s1
   refine hK.out _ _ (D6.out.var.cell 2 rfl) (fun _ => ?_)
   clear hK K
   refine wpTk (i := 7) (v := .pointer (some ⟨y1, n, none⟩)) rfl (Or.inl ⟨by rfl, fun w' hs => by go_simp⟩) (D6.out.var.cell 2 rfl) ?_
   change wpAnyH _ _ _ _ _ _ _ (Act.put _ (some 28) _) _
   simp only [Act.put, zT, zZ, zS]
   have cj := D6.out.m.c.cell D6.out.c11.symm n HN.out
   have fj := D6.out.m.c.free D6.out.c11.symm n
   have D7 : Hid (Dh w (u6.setCell ⟨y1, n, none⟩ (.int .i64 x6)) b (k' + 1 + 1 + 1) a len cap zs R q (.slice (some ⟨y0, 0, none⟩) 16 k0) (.slice (some ⟨y1, 0, none⟩) 11 k1) (.slice a2 n2 k2) (.slice a3 n3 k3) { H with csr := H.csr.set n x6 }) := D6.out.csr n x6
   refine zR 8 rfl fun K hK => ?_
   rw [if_pos (by rfl)]
   go_simp
   refine hK.out _ _ (D7.out.var.cell 2 rfl) (fun _ => ?_)
   clear hK K
   refine wpAnyH_done (by kernel_rfl) ?_ _
   generalize u6.setCell ⟨y1, n, none⟩ (.int .i64 x6) = u7 at *
   clear cj fj
   go_upto_region 15 with fail
   obtain ⟨G, hG⟩ : ∃ G, ({ H with csr := H.csr.set n x6 } : Ht) = G := ⟨_, rfl⟩
   rw [hG] at D7
   clear hG
   obtain ⟨l0, l1, l2, l3, l4, l5, l6, l7, l8⟩ := zc9 D7.out.var
   obtain ⟨r0, r1, r2, r3, r4, r5, r6, r7, r8⟩ := zc9 D7.out.res
   obtain ⟨f0, f1, f2, f3, f4, f5, f6, f7, f8⟩ := zf9 D7.out.res
   have NN : Hid (_ ∧ _) := nine D7.out.res (.slice (some ⟨y0, 0, none⟩) 16 k0) (.int .i64 G.pc) (.slice (some ⟨y1, 0, none⟩) 11 k1) (.bool G.halted) (.bool G.waiting) (.bool G.rung) (.int .i64 G.done) (.slice a2 n2 k2) (.slice a3 n3 k3)
   go_wp2_with fail
   clear l0 r0 f0 l1 r1 f1 l2 r2 f2 l3 r3 f3 l4 r4 f4 l5 r5 f5 l6 r6 f6 l7 r7 f7 l8 r8 f8
   generalize (((((((((u7.setCell ⟨R, 0, none⟩ (.slice (some ⟨y0, 0, none⟩) 16 k0)).setCell ⟨R, 1, none⟩ (.int .i64 G.pc)).setCell ⟨R, 2, none⟩ (.slice (some ⟨y1, 0, none⟩) 11 k1)).setCell ⟨R, 3, none⟩ (.bool G.halted)).setCell ⟨R, 4, none⟩ (.bool G.waiting)).setCell ⟨R, 5, none⟩ (.bool G.rung)).setCell ⟨R, 6, none⟩ (.int .i64 G.done)).setCell ⟨R, 7, none⟩ (.slice a2 n2 k2)).setCell ⟨R, 8, none⟩ (.slice a3 n3 k3)) = V at *
   obtain ⟨x0, x1, x2, x3, x4, x5, x6, x7, x8⟩ := zc9 NN.out.1
   have hb := D7.out.hb
   have hRR := D7.out.hR
   have hg := D7.out.g.size
   have TV : Turn b w V := ⟨NN.out.2.os.trans D7.out.g.os, NN.out.2.tape.trans D7.out.g.tape, NN.out.2.output.trans D7.out.g.output, Nat.le_trans D7.out.g.size NN.out.2.size, fun x hx hn => (NN.out.2.block x (Nat.lt_of_lt_of_le hx D7.out.g.size) (by omega)).trans (D7.out.g.block x hx hn)⟩
   have MV := NN.out.2.hm D7.out.m (fun x e f => by have := (D7.out.m.own x e).1; omega)
   exact bodyPost_ret (v := .agg #[.slice (some ⟨y0, 0, none⟩) 16 k0, .int .i64 G.pc, .slice (some ⟨y1, 0, none⟩) 11 k1, .bool G.halted, .bool G.waiting, .bool G.rung, .int .i64 G.done, .slice a2 n2 k2, .slice a3 n3 k3]) (by simp [results, Tryz.results48, go_sem, x0, x1, x2, x3, x4, x5, x6, x7, x8]) rfl
    ⟨_, _, _, _, _, _, _, _, _, _, _, _, G, rfl, .inl ⟨MV.mono (by omega), D7.out.ap⟩, TV, _, by have := KB.out; omega, src_mq D7.out.src NN.out.2 hb⟩
 by_cases e3 : x1 = 3
 ·subst e3
  have D2 : Hid (Dh w (u1.alloc (.cells #[.int .i64 (-1), .int .i64 4294967296] 2)) b (k' + 1) a len cap zs R q (.slice (some ⟨y0, 0, none⟩) 16 k0) (.slice (some ⟨y1, 0, none⟩) 11 k1) (.slice a2 n2 k2) (.slice a3 n3 k3) H) := D1.out.turn (Turn.alloc _ _ _) (D1.out.src.alloc _)
  go_wp2_with fail
  refine (pick_any D2.out.src (by have := KB.out; have := HK.out; omega) (fun _ => True) _ 2 (by decide) (by decide) (by simp) (by have := D1.out.src.here; omega) (lits_at _ [-1, 4294967296] _ rfl)).mono ?_
  rintro e u3 ⟨x3, rfl, -, t1, s1⟩
  have D3 := hid (D2.out.turn t1 s1)
  clear t1 s1
  have c := D3.out.var.cell 1 rfl
  have f := D3.out.var.free 1
  have D4 : Hid (Dh w (u3.setCell ⟨q, 1, none⟩ (.int .i64 x3)) b (k' + 1 + 1) a len cap zs R q (.slice (some ⟨y0, 0, none⟩) 16 k0) (.slice (some ⟨y1, 0, none⟩) 11 k1) (.slice a2 n2 k2) (.slice a3 n3 k3) { H with pc := x3 }) := D3.out.fld 1 _ _ rfl rfl rfl rfl (D3.out.var.set 1 _)
  go_upto_region 15 with fail
  generalize u3.setCell ⟨q, 1, none⟩ (.int .i64 x3) = u4 at *
  clear c f
  obtain ⟨G, hG⟩ : ∃ G, ({ H with pc := x3 } : Ht) = G := ⟨_, rfl⟩
  rw [hG] at D4
  clear hG
  obtain ⟨l0, l1, l2, l3, l4, l5, l6, l7, l8⟩ := zc9 D4.out.var
  obtain ⟨r0, r1, r2, r3, r4, r5, r6, r7, r8⟩ := zc9 D4.out.res
  obtain ⟨f0, f1, f2, f3, f4, f5, f6, f7, f8⟩ := zf9 D4.out.res
  have NN : Hid (_ ∧ _) := nine D4.out.res (.slice (some ⟨y0, 0, none⟩) 16 k0) (.int .i64 G.pc) (.slice (some ⟨y1, 0, none⟩) 11 k1) (.bool G.halted) (.bool G.waiting) (.bool G.rung) (.int .i64 G.done) (.slice a2 n2 k2) (.slice a3 n3 k3)
  go_wp2_with fail
  clear l0 r0 f0 l1 r1 f1 l2 r2 f2 l3 r3 f3 l4 r4 f4 l5 r5 f5 l6 r6 f6 l7 r7 f7 l8 r8 f8
  generalize (((((((((u4.setCell ⟨R, 0, none⟩ (.slice (some ⟨y0, 0, none⟩) 16 k0)).setCell ⟨R, 1, none⟩ (.int .i64 G.pc)).setCell ⟨R, 2, none⟩ (.slice (some ⟨y1, 0, none⟩) 11 k1)).setCell ⟨R, 3, none⟩ (.bool G.halted)).setCell ⟨R, 4, none⟩ (.bool G.waiting)).setCell ⟨R, 5, none⟩ (.bool G.rung)).setCell ⟨R, 6, none⟩ (.int .i64 G.done)).setCell ⟨R, 7, none⟩ (.slice a2 n2 k2)).setCell ⟨R, 8, none⟩ (.slice a3 n3 k3)) = V at *
  obtain ⟨x0, x1, x2, x3, x4, x5, x6, x7, x8⟩ := zc9 NN.out.1
  have hb := D4.out.hb
  have hRR := D4.out.hR
  have hg := D4.out.g.size
  have TV : Turn b w V := ⟨NN.out.2.os.trans D4.out.g.os, NN.out.2.tape.trans D4.out.g.tape, NN.out.2.output.trans D4.out.g.output, Nat.le_trans D4.out.g.size NN.out.2.size, fun x hx hn => (NN.out.2.block x (Nat.lt_of_lt_of_le hx D4.out.g.size) (by omega)).trans (D4.out.g.block x hx hn)⟩
  have MV := NN.out.2.hm D4.out.m (fun x e f => by have := (D4.out.m.own x e).1; omega)
  exact bodyPost_ret (v := .agg #[.slice (some ⟨y0, 0, none⟩) 16 k0, .int .i64 G.pc, .slice (some ⟨y1, 0, none⟩) 11 k1, .bool G.halted, .bool G.waiting, .bool G.rung, .int .i64 G.done, .slice a2 n2 k2, .slice a3 n3 k3]) (by simp [results, Tryz.results48, go_sem, x0, x1, x2, x3, x4, x5, x6, x7, x8]) rfl
   ⟨_, _, _, _, _, _, _, _, _, _, _, _, G, rfl, .inl ⟨MV.mono (by omega), D4.out.ap⟩, TV, _, by have := KB.out; omega, src_mq D4.out.src NN.out.2 hb⟩
 by_cases e4 : x1 = 4
 ·subst e4
  obtain ⟨ti, hi, hz0, hz1, hz2⟩ := info_parts info_i64
  go_upto_region 15 with (at_make; refine wpList_make_full _ rfl _ _ 24 rfl u1.heap.size 2 ti _ 1 Tryz.underlying24 hi hz0 hz1 _ _ _ _ 41 rfl rfl rfl rfl (by rw [hz2]; omega) (by unfold maxLen; omega) (Nat.le_refl _) ?_; intro p8 hown hgrow; have bl : Below u1.heap.size u1 p8 := (Below.refl _ _).grown hgrow (Nat.le_refl _) (by simp); have c8 := (D1.out.var.keep bl).cell 7 rfl; have f8 := (D1.out.var.keep bl).free 7)
  have NO : Nums p8 u1.heap.size (.slice (some ⟨u1.heap.size, 0, none⟩) 41 41) (List.replicate 41 0) := Nums.made hown (by rw [Nat.mul_one, show (Value.int .i64 0).cells = #[.int .i64 0] from rfl, toList_madeCells_one]; simp)
  obtain ⟨py, hpy⟩ : ∃ py, u1.heap.size = py := ⟨_, rfl⟩
  have E8 := D1.out.newIn NO bl
  rw [hpy] at E8
  obtain ⟨G, hG⟩ : ∃ G, ({ H with inn := List.replicate 41 0 } : Ht) = G := ⟨_, rfl⟩
  rw [hG] at E8
  have E9 : Hid (Dh w _ b _ a len cap zs R q _ _ _ _ G) := E8
  first | rw [hpy] | skip
  clear hown hgrow c8 f8 NO hi hz0 hz1 hz2 bl E8 hG hpy
  generalize p8.setCell ⟨q, 7, none⟩ (.slice (some ⟨py, 0, none⟩) 41 41) = u4 at *
  obtain ⟨l0, l1, l2, l3, l4, l5, l6, l7, l8⟩ := zc9 E9.out.var
  obtain ⟨r0, r1, r2, r3, r4, r5, r6, r7, r8⟩ := zc9 E9.out.res
  obtain ⟨f0, f1, f2, f3, f4, f5, f6, f7, f8⟩ := zf9 E9.out.res
  have NN : Hid (_ ∧ _) := nine E9.out.res (.slice (some ⟨y0, 0, none⟩) 16 k0) (.int .i64 G.pc) (.slice (some ⟨y1, 0, none⟩) 11 k1) (.bool G.halted) (.bool G.waiting) (.bool G.rung) (.int .i64 G.done) (.slice (some ⟨py, 0, none⟩) 41 41) (.slice a3 n3 k3)
  go_wp2_with fail
  clear l0 r0 f0 l1 r1 f1 l2 r2 f2 l3 r3 f3 l4 r4 f4 l5 r5 f5 l6 r6 f6 l7 r7 f7 l8 r8 f8
  generalize (((((((((u4.setCell ⟨R, 0, none⟩ (.slice (some ⟨y0, 0, none⟩) 16 k0)).setCell ⟨R, 1, none⟩ (.int .i64 G.pc)).setCell ⟨R, 2, none⟩ (.slice (some ⟨y1, 0, none⟩) 11 k1)).setCell ⟨R, 3, none⟩ (.bool G.halted)).setCell ⟨R, 4, none⟩ (.bool G.waiting)).setCell ⟨R, 5, none⟩ (.bool G.rung)).setCell ⟨R, 6, none⟩ (.int .i64 G.done)).setCell ⟨R, 7, none⟩ (.slice (some ⟨py, 0, none⟩) 41 41)).setCell ⟨R, 8, none⟩ (.slice a3 n3 k3)) = V at *
  obtain ⟨x0, x1, x2, x3, x4, x5, x6, x7, x8⟩ := zc9 NN.out.1
  have hb := E9.out.hb
  have hRR := E9.out.hR
  have hg := E9.out.g.size
  have TV : Turn b w V := ⟨NN.out.2.os.trans E9.out.g.os, NN.out.2.tape.trans E9.out.g.tape, NN.out.2.output.trans E9.out.g.output, Nat.le_trans E9.out.g.size NN.out.2.size, fun x hx hn => (NN.out.2.block x (Nat.lt_of_lt_of_le hx E9.out.g.size) (by omega)).trans (E9.out.g.block x hx hn)⟩
  have MV := NN.out.2.hm E9.out.m (fun x e f => by have := (E9.out.m.own x e).1; omega)
  exact bodyPost_ret (v := .agg #[.slice (some ⟨y0, 0, none⟩) 16 k0, .int .i64 G.pc, .slice (some ⟨y1, 0, none⟩) 11 k1, .bool G.halted, .bool G.waiting, .bool G.rung, .int .i64 G.done, .slice (some ⟨py, 0, none⟩) 41 41, .slice a3 n3 k3]) (by simp [results, Tryz.results48, go_sem, x0, x1, x2, x3, x4, x5, x6, x7, x8]) rfl
   ⟨_, _, _, _, _, _, _, _, _, _, _, _, G, rfl, .inl ⟨MV.mono (by omega), E9.out.ap⟩, TV, _, by have := KB.out; omega, src_mq E9.out.src NN.out.2 hb⟩
 by_cases e5 : x1 = 5
 ·subst e5
  have D2 : Hid (Dh w (u1.alloc (.cells #[.int .i64 (-1), .int .i64 1000000000, .int .i64 1000000001] 2)) b (k' + 1) a len cap zs R q (.slice (some ⟨y0, 0, none⟩) 16 k0) (.slice (some ⟨y1, 0, none⟩) 11 k1) (.slice a2 n2 k2) (.slice a3 n3 k3) H) := D1.out.turn (Turn.alloc _ _ _) (D1.out.src.alloc _)
  go_wp2_with fail
  refine (pick_any D2.out.src (by have := KB.out; have := HK.out; omega) (fun _ => True) _ 3 (by decide) (by decide) (by simp) (by have := D1.out.src.here; omega) (lits_at _ [-1, 1000000000, 1000000001] _ rfl)).mono ?_
  rintro e u3 ⟨x3, rfl, -, t1, s1⟩
  have D3 := hid (D2.out.turn t1 s1)
  clear t1 s1
  have c := D3.out.var.cell 6 rfl
  have f := D3.out.var.free 6
  have D4 : Hid (Dh w (u3.setCell ⟨q, 6, none⟩ (.int .i64 x3)) b (k' + 1 + 1) a len cap zs R q (.slice (some ⟨y0, 0, none⟩) 16 k0) (.slice (some ⟨y1, 0, none⟩) 11 k1) (.slice a2 n2 k2) (.slice a3 n3 k3) { H with done := x3 }) := D3.out.fld 6 _ _ rfl rfl rfl rfl (D3.out.var.set 6 _)
  go_upto_region 15 with fail
  generalize u3.setCell ⟨q, 6, none⟩ (.int .i64 x3) = u4 at *
  clear c f
  obtain ⟨G, hG⟩ : ∃ G, ({ H with done := x3 } : Ht) = G := ⟨_, rfl⟩
  rw [hG] at D4
  clear hG
  obtain ⟨l0, l1, l2, l3, l4, l5, l6, l7, l8⟩ := zc9 D4.out.var
  obtain ⟨r0, r1, r2, r3, r4, r5, r6, r7, r8⟩ := zc9 D4.out.res
  obtain ⟨f0, f1, f2, f3, f4, f5, f6, f7, f8⟩ := zf9 D4.out.res
  have NN : Hid (_ ∧ _) := nine D4.out.res (.slice (some ⟨y0, 0, none⟩) 16 k0) (.int .i64 G.pc) (.slice (some ⟨y1, 0, none⟩) 11 k1) (.bool G.halted) (.bool G.waiting) (.bool G.rung) (.int .i64 G.done) (.slice a2 n2 k2) (.slice a3 n3 k3)
  go_wp2_with fail
  clear l0 r0 f0 l1 r1 f1 l2 r2 f2 l3 r3 f3 l4 r4 f4 l5 r5 f5 l6 r6 f6 l7 r7 f7 l8 r8 f8
  generalize (((((((((u4.setCell ⟨R, 0, none⟩ (.slice (some ⟨y0, 0, none⟩) 16 k0)).setCell ⟨R, 1, none⟩ (.int .i64 G.pc)).setCell ⟨R, 2, none⟩ (.slice (some ⟨y1, 0, none⟩) 11 k1)).setCell ⟨R, 3, none⟩ (.bool G.halted)).setCell ⟨R, 4, none⟩ (.bool G.waiting)).setCell ⟨R, 5, none⟩ (.bool G.rung)).setCell ⟨R, 6, none⟩ (.int .i64 G.done)).setCell ⟨R, 7, none⟩ (.slice a2 n2 k2)).setCell ⟨R, 8, none⟩ (.slice a3 n3 k3)) = V at *
  obtain ⟨x0, x1, x2, x3, x4, x5, x6, x7, x8⟩ := zc9 NN.out.1
  have hb := D4.out.hb
  have hRR := D4.out.hR
  have hg := D4.out.g.size
  have TV : Turn b w V := ⟨NN.out.2.os.trans D4.out.g.os, NN.out.2.tape.trans D4.out.g.tape, NN.out.2.output.trans D4.out.g.output, Nat.le_trans D4.out.g.size NN.out.2.size, fun x hx hn => (NN.out.2.block x (Nat.lt_of_lt_of_le hx D4.out.g.size) (by omega)).trans (D4.out.g.block x hx hn)⟩
  have MV := NN.out.2.hm D4.out.m (fun x e f => by have := (D4.out.m.own x e).1; omega)
  exact bodyPost_ret (v := .agg #[.slice (some ⟨y0, 0, none⟩) 16 k0, .int .i64 G.pc, .slice (some ⟨y1, 0, none⟩) 11 k1, .bool G.halted, .bool G.waiting, .bool G.rung, .int .i64 G.done, .slice a2 n2 k2, .slice a3 n3 k3]) (by simp [results, Tryz.results48, go_sem, x0, x1, x2, x3, x4, x5, x6, x7, x8]) rfl
   ⟨_, _, _, _, _, _, _, _, _, _, _, _, G, rfl, .inl ⟨MV.mono (by omega), D4.out.ap⟩, TV, _, by have := KB.out; omega, src_mq D4.out.src NN.out.2 hb⟩
 go_upto_region 15 with fail
 obtain ⟨G, hG⟩ : ∃ G, (H : Ht) = G := ⟨_, rfl⟩
 rw [hG] at D1
 clear hG
 obtain ⟨l0, l1, l2, l3, l4, l5, l6, l7, l8⟩ := zc9 D1.out.var
 obtain ⟨r0, r1, r2, r3, r4, r5, r6, r7, r8⟩ := zc9 D1.out.res
 obtain ⟨f0, f1, f2, f3, f4, f5, f6, f7, f8⟩ := zf9 D1.out.res
 have NN : Hid (_ ∧ _) := nine D1.out.res (.slice (some ⟨y0, 0, none⟩) 16 k0) (.int .i64 G.pc) (.slice (some ⟨y1, 0, none⟩) 11 k1) (.bool G.halted) (.bool G.waiting) (.bool G.rung) (.int .i64 G.done) (.slice a2 n2 k2) (.slice a3 n3 k3)
 go_wp2_with fail
 clear l0 r0 f0 l1 r1 f1 l2 r2 f2 l3 r3 f3 l4 r4 f4 l5 r5 f5 l6 r6 f6 l7 r7 f7 l8 r8 f8
 generalize (((((((((u1.setCell ⟨R, 0, none⟩ (.slice (some ⟨y0, 0, none⟩) 16 k0)).setCell ⟨R, 1, none⟩ (.int .i64 G.pc)).setCell ⟨R, 2, none⟩ (.slice (some ⟨y1, 0, none⟩) 11 k1)).setCell ⟨R, 3, none⟩ (.bool G.halted)).setCell ⟨R, 4, none⟩ (.bool G.waiting)).setCell ⟨R, 5, none⟩ (.bool G.rung)).setCell ⟨R, 6, none⟩ (.int .i64 G.done)).setCell ⟨R, 7, none⟩ (.slice a2 n2 k2)).setCell ⟨R, 8, none⟩ (.slice a3 n3 k3)) = V at *
 obtain ⟨x0, x1, x2, x3, x4, x5, x6, x7, x8⟩ := zc9 NN.out.1
 have hb := D1.out.hb
 have hRR := D1.out.hR
 have hg := D1.out.g.size
 have TV : Turn b w V := ⟨NN.out.2.os.trans D1.out.g.os, NN.out.2.tape.trans D1.out.g.tape, NN.out.2.output.trans D1.out.g.output, Nat.le_trans D1.out.g.size NN.out.2.size, fun x hx hn => (NN.out.2.block x (Nat.lt_of_lt_of_le hx D1.out.g.size) (by omega)).trans (D1.out.g.block x hx hn)⟩
 have MV := NN.out.2.hm D1.out.m (fun x e f => by have := (D1.out.m.own x e).1; omega)
 exact bodyPost_ret (v := .agg #[.slice (some ⟨y0, 0, none⟩) 16 k0, .int .i64 G.pc, .slice (some ⟨y1, 0, none⟩) 11 k1, .bool G.halted, .bool G.waiting, .bool G.rung, .int .i64 G.done, .slice a2 n2 k2, .slice a3 n3 k3]) (by simp [results, Tryz.results48, go_sem, x0, x1, x2, x3, x4, x5, x6, x7, x8]) rfl
  ⟨_, _, _, _, _, _, _, _, _, _, _, _, G, rfl, .inl ⟨MV.mono (by omega), D1.out.ap⟩, TV, _, by have := KB.out; omega, src_mq D1.out.src NN.out.2 hb⟩
end Go.Proofs.YtaefollmeoepkaaGreatDoor
