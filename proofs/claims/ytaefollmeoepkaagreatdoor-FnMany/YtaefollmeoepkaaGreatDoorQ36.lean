/- Texts of this seat, joined. -/
import Derived.Deep.RegionHeld3
import Derived.Deep.AppendSrc
import Derived.Deep.Cut
import Derived.Deep.CutRange
import Derived.Defers
import Derived.Recover
import Derived.Laws.Pointers
import Derived.Test.YtaefollmeoepkaaGreatDoorQ03
import Derived.Test.YtaefollmeoepkaaGreatDoorQ04
import Derived.Test.YtaefollmeoepkaaGreatDoorQ13
import Derived.Test.YtaefollmeoepkaaGreatDoorQ21
import Derived.Test.YtaefollmeoepkaaGreatDoorQ26
import Derived.Test.YtaefollmeoepkaaGreatDoorQ28
import Derived.Test.YtaefollmeoepkaaGreatDoorQ29
import Derived.Test.YtaefollmeoepkaaGreatDoorQ35
namespace Go.Proofs.YtaefollmeoepkaaGreatDoor
open Go.RowKit
set_option linter.unusedVariables false
theorem Nums.turn7 {w w' : World} {base b : Nat} {v : Value} {zs : List Int} (h : Nums w base v zs) (t : Turn b w w') (hb : b < base) : Nums w' base v zs := by
  refine h.kept (row := some b) ⟨t.os, t.tape, t.output, t.size, fun k hk hn => t.block k hk (fun e => hn (by rw [e]))⟩ (.inr fun e => ?_)
  have := (h.lt b e).1
  omega
theorem Turn.grown7 {b : Nat} {w0 w w' : World} {row : Option Nat} (t : Turn b w0 w) (g : w.grownBy w' row) (hr : ∀ k, row = some k → w0.heap.size ≤ k) : Turn b w0 w' :=
  ⟨g.os.trans t.os, g.tape.trans t.tape, g.output.trans t.output, Nat.le_trans t.size g.size, fun k hk hb => (g.block k (Nat.lt_of_lt_of_le hk t.size) (fun e => by have := hr k e.symm; omega)).trans (t.block k hk hb)⟩
theorem Src.grown7 {w w' : World} {b k : Nat} {a : Option Addr} {len cap : Nat} {zs : List Int} {row : Option Nat} (s : Src w b k a len cap zs) (g : w.grownBy w' row) (hr : ∀ k, row = some k → b < k) : Src w' b k a len cap zs := by
  have h := s.here
  have hne : ∀ p : Nat, p ≤ b → some p ≠ row := fun p hp e => by have := hr p e.symm; omega
  refine ⟨cell_grown g s.code (hne b (Nat.le_refl _)), cell_grown g s.count (hne b (Nat.le_refl _)), ?_, ?_, s.away, Nat.lt_of_lt_of_le h g.size⟩
  · rw [← s.free]
    exact World.frozen?_of_block (w := w) (g.block b h (hne b (Nat.le_refl _)))
  · rcases s.row with h | ⟨x, rfl, h1, h2, h3, h4, h5⟩
    · exact .inl h
    · refine .inr ⟨x, rfl, h1, h2, h3, fun i hi => ?_, h5⟩
      have hx := s.away x rfl (by omega)
      exact cell_grown g (h4 i hi) (by rw [src_block]; exact hne _ (by omega))
theorem Rn.one7 {w : World} {g : Nat} {z : Int} (h : w.cell? ⟨g, 0, none⟩ = some (.int .i64 z)) : Rn w (some ⟨g, 0, none⟩) 1 1 [z] := by
  refine .inr ⟨_, rfl, Nat.le_refl _, by unfold maxLen; decide, rfl, fun i hi => ?_⟩
  obtain rfl : i = 0 := by omega
  exact h
set_option maxHeartbeats 4000000 in
theorem image_any {w : World} {b k : Nat} {a : Option Addr} {len cap : Nat} {zs : List Int} (s : Src w b k a len cap zs) (hk : k ≤ 30000) (n : Int) (hn : n ≤ 100) (hn0 : -1000 ≤ n) :
    Calls Tryz.prog 52 #[.pointer (some ⟨b, 0, none⟩), .int .i64 n] w fun e w' => ∃ (v : Value) (xs : List Int) (k' : Nat), e = .returned v ∧ Nums w' w.heap.size v xs ∧ xs.length = n.toNat ∧ Turn b w w' ∧ Src w' b k' a len cap zs ∧ k' ≤ k + 20 * n.toNat := by
  have fv := field_value
  have HH : Hid (b < w.heap.size) := s.here
  have N0 : Hid (Nums (w.alloc (.cells #[] 2)) w.heap.size (.slice (some ⟨w.heap.size, 0, none⟩) 0 0) []) := nums_none w _ (Nat.le_refl _)
  have S0 : Hid (Src (w.alloc (.cells #[] 2)) b k a len cap zs) := s.alloc _
  have T0 : Hid (Turn b w (w.alloc (.cells #[] 2))) := Turn.alloc b w _
  obtain ⟨N, hN⟩ : ∃ N : Nat, n.toNat = N := ⟨_, rfl⟩
  have HNN : Hid (n.toNat = N ∧ n ≤ 100 ∧ k ≤ 30000) := ⟨hN, hn, hk⟩
  rw [hN]
  clear s hk
  by_cases hpos : n ≤ 0
  · have hz : ¬ 0 < n := by omega
    have hN0 : N = 0 := by omega
    subst hN0
    clear hN
    go_enter Tryz.func52, Tryz.ntmps52
    go_wp2_with fail
    generalize w.alloc (.cells #[] 2) = W at *
    go_loopw [1, 5, 6] (fun c u _ wr => c = .int .i64 n ∧ u = .slice (some ⟨w.heap.size, 0, none⟩) 0 0 ∧ wr = W) (fun _ _ _ _ => 0)
    case atStart => exact ⟨rfl, rfl, rfl⟩
    case round =>
      obtain ⟨rfl, rfl, rfl⟩ := hrel
      go_wp2_with fail
      go_ret
      exact ⟨_, _, _, rfl, N0.out, rfl, T0.out, S0.out, by omega⟩
  · obtain rfl : n = N := by omega
    clear hN hpos hn hn0
    go_enter Tryz.func52, Tryz.ntmps52
    go_wp2_with fail
    generalize w.alloc (.cells #[] 2) = W at *
    go_loopw [1, 5, 6] (fun c u _ wr => ∃ (j k' : Nat) (xs : List Int), j ≤ N ∧ c = .int .i64 j ∧ xs.length + j = N ∧ k' + 20 * j ≤ k + 20 * N ∧ Nums wr w.heap.size u xs ∧ Turn b w wr ∧ Src wr b k' a len cap zs) (fun c _ _ _ => (intOf c).toNat)
    case atStart => exact ⟨N, k, [], Nat.le_refl _, rfl, by simp, by omega, N0.out, T0.out, S0.out⟩
    case round =>
      obtain ⟨j, k', xs, hj, rfl, hxs, hk', hN, hT, hS⟩ := hrel
      have NJ : Hid (Nums wr w.heap.size u5 xs) := hN
      have TJ : Hid (Turn b w wr) := hT
      have SJ : Hid (Src wr b k' a len cap zs) := hS
      have HX : Hid (xs.length + j = N ∧ k' + 20 * j ≤ k + 20 * N ∧ j ≤ N ∧ N ≤ 100 ∧ k ≤ 30000) := ⟨hxs, hk', hj, by have := HNN.out; omega, by have := HNN.out; omega⟩
      clear hN hT hS hxs hk' N0 T0 S0
      by_cases hlt : 0 < j
      · have hJ : 0 < (j : Int) := by omega
        have hJ2 : (j : Int) ≤ 100 := by have := HX.out; omega
        have HLT : Hid (0 < j) := hlt
        clear hlt hj
        go_wp2_with fail
        refine (ins7_any SJ.out (by have := HX.out; omega)).mono ?_
        rintro e w1 ⟨o1, d1, x1, i1, k1, rfl, t1, s1, hk1⟩
        have N1 : Hid (Nums w1 w.heap.size u5 xs) := NJ.out.turn7 t1 HH.out
        have T1 : Hid (Turn b w w1) := TJ.out.trans t1
        have S1 : Hid (Src w1 b k1 a len cap zs) := s1
        have HK1 : Hid (k1 ≤ k' + 10) := hk1
        clear t1 s1 hk1 NJ TJ SJ
        go_wp2_with fail
        refine (spec_encode o1 d1 x1 i1 w1).mono ?_
        rintro e w2 ⟨rfl, b2⟩
        have N2 : Hid (Nums w2 w.heap.size u5 xs) := N1.out.keep b2
        have T2 : Hid (Turn b w w2) := T1.out.trans (Turn.of_below b2)
        have S2 : Hid (Src w2 b k1 a len cap zs) := S1.out.stay b2
        clear b2 N1 T1 S1
        generalize encV o1 d1 x1 i1 = ev
        go_wp2_with fail
        refine (chance_any S2.out (by have := HX.out; have := HK1.out; omega) _).mono ?_
        rintro e w3 ⟨c3, rfl, t3, s3⟩
        have N3 : Hid (Nums w3 w.heap.size u5 xs) := N2.out.turn7 t3 HH.out
        have T3 : Hid (Turn b w w3) := T2.out.trans t3
        have S3 : Hid (Src w3 b (k1 + 1) a len cap zs) := s3
        clear t3 s3 N2 T2 S2
        have hend : ∀ (z : Int) (w4 : World) (k4 : Nat), Nums w4 w.heap.size u5 xs → Turn b w w4 → Src w4 b k4 a len cap zs → k4 ≤ k1 + 6 → True := fun _ _ _ _ _ _ _ => trivial
        clear hend
        cases c3
        · go_wp2_with (at_builtin; refine wp_appx _ rfl _ _ rfl w.heap.size u5 _ rfl (N3.out.keep (al (Below.refl _ _) _)) _ 1 1 [ev] rfl (Rn.one7 (cell_new rfl)) (by have := HX.out; omega) (by have := T3.out.size; simp; omega) ?_; intro v' w' hN' hG')
          have N4 : Hid (Nums w' w.heap.size v' (xs ++ [ev])) := hN'
          have T4 : Hid (Turn b w w') := (T3.out.trans (Turn.alloc b _ _)).grown7 hG' (fun q hq => by have := (N3.out.lt q hq).1; omega)
          have S4 : Hid (Src w' b (k1 + 1) a len cap zs) := (S3.out.alloc _).grown7 hG' (fun q hq => by have := (N3.out.lt q hq).1; have := HH.out; omega)
          clear hN' hG'
          go_wp2_with fail
          go_roundw
          case rel => exact ⟨j - 1, k1 + 1, xs ++ [ev], by have := HX.out; omega, by have := HLT.out; rw [show ((j - 1 : Nat) : Int) = (j : Int) - 1 by omega], by have := HX.out; have := HLT.out; simp; omega, by have := HX.out; have := HK1.out; have := HLT.out; omega, N4.out, T4.out, S4.out⟩
          case measure => have := HLT.out; show ((j : Int) - 1).toNat < ((j : Int)).toNat; omega
        · go_wp2_with fail
          refine (word_any S3.out (by have := HX.out; have := HK1.out; omega)).mono ?_
          rintro e w4 ⟨v4, rfl, h4, t4, s4⟩
          have N3b : Hid (Nums w4 w.heap.size u5 xs) := N3.out.turn7 t4 HH.out
          have T3b : Hid (Turn b w w4) := T3.out.trans t4
          have S3b : Hid (Src w4 b (k1 + 1 + 5) a len cap zs) := s4
          clear t4 s4 h4 N3 T3 S3
          go_wp2_with (at_builtin; refine wp_appx _ rfl _ _ rfl w.heap.size u5 _ rfl (N3b.out.keep (al (Below.refl _ _) _)) _ 1 1 [v4] rfl (Rn.one7 (cell_new rfl)) (by have := HX.out; omega) (by have := T3b.out.size; simp; omega) ?_; intro v' w' hN' hG')
          have N4 : Hid (Nums w' w.heap.size v' (xs ++ [v4])) := hN'
          have T4 : Hid (Turn b w w') := (T3b.out.trans (Turn.alloc b _ _)).grown7 hG' (fun q hq => by have := (N3b.out.lt q hq).1; omega)
          have S4 : Hid (Src w' b (k1 + 1 + 5) a len cap zs) := (S3b.out.alloc _).grown7 hG' (fun q hq => by have := (N3b.out.lt q hq).1; have := HH.out; omega)
          clear hN' hG'
          go_wp2_with fail
          go_roundw
          case rel => exact ⟨j - 1, k1 + 1 + 5, xs ++ [v4], by have := HX.out; omega, by have := HLT.out; rw [show ((j - 1 : Nat) : Int) = (j : Int) - 1 by omega], by have := HX.out; have := HLT.out; simp; omega, by have := HX.out; have := HK1.out; have := HLT.out; omega, N4.out, T4.out, S4.out⟩
          case measure => have := HLT.out; show ((j : Int) - 1).toNat < ((j : Int)).toNat; omega
      · obtain rfl : j = 0 := by omega
        clear hlt hj
        go_wp2_with fail
        go_ret
        exact ⟨_, xs, k', rfl, NJ.out, by have := HX.out; omega, TJ.out, SJ.out, by have := HX.out; omega⟩
set_option maxRecDepth 20000 in
set_option maxHeartbeats 8000000 in
theorem s_set_any (q : Nat) (r c i o : Value) (H : Ht) (k x : Int) (b : Nat) (w : World) (h : Hm w b r c i o H) (A : Ha r c i o) (hv : Vb w q #[r, .int .i64 H.pc, c, .bool H.halted, .bool H.waiting, .bool H.rung, .int .i64 H.done, i, o] 26) (hq : ∀ k, Own4 r c i o k → k ≠ q) (hc : H.csr.length = 11) (h0 : 0 ≤ k) (h10 : k ≤ 10) :
    Calls Tryz.prog 106 #[.pointer (some ⟨q, 0, none⟩), .int .i64 k, .int .i64 x] w fun e w' => e = .returned (.tuple #[]) ∧ ∃ H', Sv w w' b q r c i o H' ∧ H'.regs.length = H.regs.length ∧ H'.csr.length = 11 := by
  have S0 : Hid (Sv w w b q r c i o H) := ⟨h, hv, Mq.refl _ _⟩
  obtain ⟨a1, k1, rfl, _, _, g1⟩ := h.c.shape
  obtain ⟨y1, rfl⟩ := g1 (by omega)
  have HC : Hid (H.csr.length = 11) := hc
  rw [hc] at h hv hq A S0 ⊢
  have HA : Hid (Ha r _ i o) := A
  have HQ : Hid (∀ k, Own4 r (.slice (some ⟨y1, 0, none⟩) 11 k1) i o k → k ≠ q) := hq
  have QY : Hid (q ≠ y1) := fun e => hq y1 (.inr (.inl rfl)) e.symm
  obtain ⟨u, hu⟩ : ∃ u, wd x = u := ⟨_, rfl⟩
  have HU : Hid (wd x = u) := hu
  have u0 : 0 ≤ u := by rw [← hu]; exact (hwd_in x).1
  have u9 : u ≤ 4294967295 := by rw [← hu]; exact (hwd_in x).2
  have t4 : u.tmod 4 = u % 4 := Int.tmod_eq_emod_of_nonneg u0
  have t8 : u.tmod 8 = u % 8 := Int.tmod_eq_emod_of_nonneg u0
  have v2 := hv.cell 2 rfl
  have v5 := hv.cell 5 rfl
  have f5 := hv.free 5
  have CE : Hid (∀ n, n < 11 → w.cell? ⟨y1, n, none⟩ = some (.int .i64 (gt H.csr n))) := fun n hn => h.c.cell hc.symm n hn
  have FE : Hid (∀ n, w.frozen? ⟨y1, n, none⟩ = false) := fun n => h.c.free hc.symm n
  clear h hv hq A g1 hc hu
  by_cases k0 : k = 0
  · subst k0
    have cc := CE.out 0 (by decide)
    have ff := FE.out 0
    go_enter Tryz.func106, Tryz.ntmps106
    go_wp2_with (go_at_call 135; refine (s_wrap _ _).mono ?_; rintro e y ⟨rfl, hy⟩; rw [hy]; clear hy y; rw [HU.out])
    go_end0
    exact ⟨rfl, _, S0.out.csr HA.out QY.out 0 _, rfl, by first | exact HC.out | simpa using HC.out⟩
  by_cases k7 : k = 7
  · subst k7
    have cc := CE.out 7 (by decide)
    have ff := FE.out 7
    go_enter Tryz.func106, Tryz.ntmps106
    go_wp2_with (go_at_call 135; refine (s_wrap _ _).mono ?_; rintro e y ⟨rfl, hy⟩; rw [hy]; clear hy y; rw [HU.out])
    go_end0
    exact ⟨rfl, _, S0.out.csr HA.out QY.out 7 _, rfl, by first | exact HC.out | simpa using HC.out⟩
  by_cases k10 : k = 10
  · subst k10
    have cc := CE.out 10 (by decide)
    have ff := FE.out 10
    have qy : q ≠ y1 := QY.out
    by_cases h8 : u ≤ 8
    · have H8 : Hid (u ≤ 8) := h8
      go_enter Tryz.func106, Tryz.ntmps106
      go_wp2_with (go_at_call 135; refine (s_wrap _ _).mono ?_; rintro e y ⟨rfl, hy⟩; rw [hy]; clear hy y; rw [HU.out])
      go_end0
      exact ⟨rfl, _, (S0.out.csr HA.out QY.out 10 0).csr HA.out QY.out 10 u, rfl, by first | exact HC.out | simpa using HC.out⟩
    · have H8 : Hid (8 < u) := by show _ < _; omega
      go_enter Tryz.func106, Tryz.ntmps106
      go_wp2_with (go_at_call 135; refine (s_wrap _ _).mono ?_; rintro e y ⟨rfl, hy⟩; rw [hy]; clear hy y; rw [HU.out])
      go_end0
      exact ⟨rfl, _, S0.out.csr HA.out QY.out 10 0, rfl, by first | exact HC.out | simpa using HC.out⟩
  by_cases k6 : k = 6
  · subst k6
    cases hr : H.rung
    · have HR : Hid (H.rung = false) := hr
      rw [hr] at v5
      go_enter Tryz.func106, Tryz.ntmps106
      go_wp2_with (go_at_call 135; refine (s_wrap _ _).mono ?_; rintro e y ⟨rfl, hy⟩; rw [hy]; clear hy y; rw [HU.out])
      go_end0
      exact ⟨rfl, _, S0.out.rung HQ.out false, rfl, by first | exact HC.out | simpa using HC.out⟩
    · rw [hr] at v5
      by_cases h2 : u % 4 < 2
      · have H2 : Hid (decide (2 ≤ u % 4) = false) := decide_eq_false (by omega)
        go_enter Tryz.func106, Tryz.ntmps106
        go_wp2_with (go_at_call 135; refine (s_wrap _ _).mono ?_; rintro e y ⟨rfl, hy⟩; rw [hy]; clear hy y; rw [HU.out])
        go_end0
        exact ⟨rfl, _, S0.out.rung HQ.out true, rfl, by first | exact HC.out | simpa using HC.out⟩
      · have H2 : Hid (decide (2 ≤ u % 4) = true) := decide_eq_true (by omega)
        go_enter Tryz.func106, Tryz.ntmps106
        go_wp2_with (go_at_call 135; refine (s_wrap _ _).mono ?_; rintro e y ⟨rfl, hy⟩; rw [hy]; clear hy y; rw [HU.out])
        go_end0
        rw [show decide (u % 4 < 2) = false from decide_eq_false (by have := of_decide_eq_true H2.out; omega)]
        exact ⟨rfl, _, S0.out.rung HQ.out false, rfl, by first | exact HC.out | simpa using HC.out⟩
  by_cases k8 : k = 8
  · subst k8
    go_enter Tryz.func106, Tryz.ntmps106
    go_wp2_with (go_at_call 135; refine (s_wrap _ _).mono ?_; rintro e y ⟨rfl, hy⟩; rw [hy]; clear hy y; rw [HU.out])
    go_end0
    exact ⟨rfl, _, S0.out, rfl, by first | exact HC.out | simpa using HC.out⟩
  obtain ⟨n, rfl⟩ : ∃ n : Nat, k = n := ⟨k.toNat, by omega⟩
  have cc := CE.out n (by omega)
  have ff := FE.out n
  have hI : (n : Int) < 11 := by omega
  go_enter Tryz.func106, Tryz.ntmps106
  go_wp2_with (go_at_call 135; refine (s_wrap _ _).mono ?_; rintro e y ⟨rfl, hy⟩; rw [hy]; clear hy y; rw [HU.out])
  go_end0
  exact ⟨rfl, _, S0.out.csr HA.out QY.out n _, rfl, by first | exact HC.out | simpa using HC.out⟩
theorem own_info (w : World) (ty : TypeId) (g : Nat) (ad : Addr) (m c : Nat) (ys : List Int) (hy : ys.length = m) (hc : ∀ i, i < m → w.cell? (ad.add i) = some (.int .i64 (ys.getD i 0))) (hm : m ≤ 1000) (v' : Value) (w' : World)
    (hr : (Builtin.append_ #[24, 24] ty #[.slice (some ⟨g, 0, none⟩) 0 0, .slice (some ad) m c]).run Tryz.prog w = .ok v' w') : v' = .slice (some ⟨g, 0, none⟩) 0 0 ∨ v'.ownBlock = some w.heap.size := by
  obtain ⟨i, hi, hz0, hz1, hz2⟩ := info_parts info_i64
  have hs : Go.Src Tryz.prog i.size 24 (.slice (some ad) m c) m (ys.map (Value.int .i64)) w := by
    refine Go.Src.ofSlice w Tryz.underlying24 ad m c _ (by rw [hz1]; simpa using hy) ?_ ?_
    · intro j u hj
      have hjl : j < ys.length := by have := (List.getElem?_eq_some_iff.1 hj).1; simpa using this
      rw [List.getElem?_map, List.getElem?_eq_getElem hjl] at hj
      have := hc j (by omega)
      rw [List.getD, List.getElem?_eq_getElem hjl] at this
      rw [this]
      exact hj
    · intro u hu
      obtain ⟨z, _, rfl⟩ := List.mem_map.1 hu
      rfl
  by_cases h0 : m = 0
  · subst h0
    have e := run_append_room_src (P := Tryz.prog) w 24 24 ty 2 i Tryz.underlying24 hi g 0 0 0 _ 0 _ hs (by omega) (fun j hj => by simp [hy] at hj) (fun j hj => by simp [hy] at hj)
    rw [e] at hr
    cases hr
    exact .inl rfl
  · have e := run_append_grow_src (P := Tryz.prog) w 24 24 ty 2 i _ Tryz.underlying24 hi hz0 (some ⟨g, 0, none⟩) 0 0 [] (by simp [Builtin.firstCells, loadCells, loadCellsFrom]) _ m _ hs (by omega) (by omega) (by rw [hz2]; unfold Builtin.nextslicecap; rw [if_pos (by omega)]; omega)
    rw [e] at hr
    cases hr
    exact .inr rfl
theorem step_app8 {ops : Array Oper} {o : Oper} {act : Act} {w : World} {K : Act → World → Prop} {Q : Exit → Act → World → Prop} {E : Prop} (hgd : o.guard = none) (s x : Operand)
    (ho : o.op = .call { callee := .builtin .append, args := #[s, x], argTypes := #[24, 24] }) (base g : Nat) (hs : act.eval s = .slice (some ⟨g, 0, none⟩) 0 0) (hN : Nums w base (.slice (some ⟨g, 0, none⟩) 0 0) [])
    (ao : Option Addr) (m c : Nat) (ys : List Int) (hx : act.eval x = .slice ao m c) (hy : ys.length = m) (hnone : ao = none → m = 0 ∧ c = 0) (hc : ∀ ad, ao = some ad → ∀ i, i < m → w.cell? (ad.add i) = some (.int .i64 (ys.getD i 0)))
    (hlen : m ≤ 1000) (hbase : base ≤ w.heap.size)
    (h : ∀ v' w', Nums w' base v' ys → w.grownBy w' (Value.slice (some ⟨g, 0, none⟩) 0 0).ownBlock → (v' = .slice (some ⟨g, 0, none⟩) 0 0 ∨ v'.ownBlock = some w.heap.size) → K (act.put o.dst v') w') :
    if Region.wanted o (yielded ops act.tmps) = true then Oper.wp Tryz.prog o act w K Q else E := by
  have hw : Region.wanted o (yielded ops act.tmps) = true := by simp [Region.wanted, hgd]
  rw [if_pos hw]
  obtain ⟨i, hi, hz0, hz1, hz2⟩ := info_parts info_i64
  cases ao with
  | none =>
    obtain ⟨rfl, rfl⟩ := hnone rfl
    obtain rfl : ys = [] := List.eq_nil_of_length_eq_zero hy
    have hrun := run_append_owned_none (P := Tryz.prog) (w := w) base 24 o.type 2 i 1 Tryz.underlying24 hi _ 0 _ hN
    unfold Oper.wp
    simp [execOp, ho, resolve, invoke, builtin, hs, hx, hrun, Result.andThen]
    exact h _ w hN (World.grownBy.refl _ _) (.inl rfl)
  | some ad =>
    obtain ⟨v', w', hr, h2, h3, _⟩ := run_append_own (P := Tryz.prog) w base 24 o.type 2 i _ 1 8 Tryz.underlying24 hi hz0 hz1 hz2 rfl (by decide) _ 0 _ hN ad m c (ys.map (Value.int .i64)) (by simpa using hy) (by
      intro j u hj
      have hjl : j < ys.length := by have := (List.getElem?_eq_some_iff.1 hj).1; simpa using this
      rw [List.getElem?_map, List.getElem?_eq_getElem hjl] at hj
      have := hc ad rfl j (by omega)
      rw [List.getD, List.getElem?_eq_getElem hjl] at this
      rw [this]
      exact hj) (by
      intro u hu
      obtain ⟨z, _, rfl⟩ := List.mem_map.1 hu
      rfl) (by unfold maxLen; omega) (by omega) hbase
    have hi' := own_info w o.type g ad m c ys hy (hc ad rfl) hlen v' w' hr
    unfold Oper.wp execOp
    simp only [ho, resolve, invoke, builtin, Sem.run_bind, Sem.run_pure, Result.andThen_ok, List.map_toArray, List.map_cons, List.map_nil, hs, hx, hr]
    refine h v' w' ?_ h3 hi'
    unfold Nums
    simpa [hy] using h2
structure Nx (W w : World) (s : Nat) (zs : List Int) (A B C D : Option Value) : Prop where
  mq : Mq (fun k => k = s) W w
  th : w.there s 0 10
  a : ∀ v, A = some v → Nums w W.heap.size v (List.replicate 16 0)
  b : ∀ v, B = some v → Nums w W.heap.size v (List.replicate 11 0)
  c : D = none → ∀ v, C = some v → Nums w W.heap.size v []
  d : ∀ v, D = some v → Nums w W.heap.size v zs
  ac : D = none → ∀ v u, A = some v → C = some u → Apt v u
  bc : D = none → ∀ v u, B = some v → C = some u → Apt v u
  ab : ∀ v u, A = some v → B = some u → Apt v u
  ad : ∀ v u, A = some v → D = some u → Apt v u
  bd : ∀ v u, B = some v → D = some u → Apt v u
theorem Nx.grow {W w w' : World} {s : Nat} {zs : List Int} {A B C D : Option Value} (h : Nx W w s zs A B C D) (hs : s < W.heap.size) (b : Below w.heap.size w w') : Nx W w' s zs A B C D :=
  ⟨h.mq.trans (Mq.of (below_grown b none) fun k e => by cases e), there_below h.th (Nat.lt_of_lt_of_le hs h.mq.size) b, fun v e => (h.a v e).keep b, fun v e => (h.b v e).keep b, fun e v f => (h.c e v f).keep b, fun v e => (h.d v e).keep b, h.ac, h.bc, h.ab, h.ad, h.bd⟩
theorem Nx.mkA {W w w' : World} {s : Nat} {zs : List Int} {B C D : Option Value} {v : Value} (h : Nx W w s zs none B C D) (hs : s < W.heap.size) (n : Nums w' w.heap.size v (List.replicate 16 0)) (b : Below w.heap.size w w') : Nx W w' s zs (some v) B C D :=
  let g := h.grow hs b
  ⟨g.mq, g.th, fun u e => by cases e; exact n.mono h.mq.size, g.b, g.c, g.d, fun e u x f k => by cases f; exact ((h.c e x k).apt n (Nat.le_refl _)).swap, g.bc, fun u x f k => by cases f; exact ((h.b x k).apt n (Nat.le_refl _)).swap, fun u x f k => by cases f; exact ((h.d x k).apt n (Nat.le_refl _)).swap, g.bd⟩
theorem Nx.mkB {W w w' : World} {s : Nat} {zs : List Int} {A C D : Option Value} {v : Value} (h : Nx W w s zs A none C D) (hs : s < W.heap.size) (n : Nums w' w.heap.size v (List.replicate 11 0)) (b : Below w.heap.size w w') : Nx W w' s zs A (some v) C D :=
  let g := h.grow hs b
  ⟨g.mq, g.th, g.a, fun u e => by cases e; exact n.mono h.mq.size, g.c, g.d, g.ac, fun e u x f k => by cases f; exact ((h.c e x k).apt n (Nat.le_refl _)).swap, fun u x f k => by cases k; exact (h.a u f).apt n (Nat.le_refl _), g.ad, fun u x f k => by cases f; exact ((h.d x k).apt n (Nat.le_refl _)).swap⟩
theorem Nx.mkC {W w w' : World} {s : Nat} {zs : List Int} {A B : Option Value} {v : Value} (h : Nx W w s zs A B none none) (hs : s < W.heap.size) (n : Nums w' w.heap.size v []) (b : Below w.heap.size w w') : Nx W w' s zs A B (some v) none :=
  let g := h.grow hs b
  ⟨g.mq, g.th, g.a, g.b, fun _ u e => by cases e; exact n.mono h.mq.size, g.d, fun e u x f k => by cases k; exact (h.a u f).apt n (Nat.le_refl _), fun e u x f k => by cases k; exact (h.b u f).apt n (Nat.le_refl _), g.ab, g.ad, g.bd⟩
theorem Nx.app {W w w' : World} {s : Nat} {zs : List Int} {A B : Option Value} {v v' : Value} (h : Nx W w s zs A B (some v) none) (hs : s < W.heap.size) (n : Nums w' W.heap.size v' zs) (g : w.grownBy w' v.ownBlock) (ho : v' = v ∨ v'.ownBlock = some w.heap.size) : Nx W w' s zs A B (some v) (some v') := by
  have apt : ∀ (u : Value) (ys : List Int), Nums w W.heap.size u ys → Apt u v → Apt u v' := fun u ys hu ha => by
    rcases ho with e | e
    · rw [e]; exact ha
    · refine .inr fun f => ?_
      rw [e] at f
      have := (hu.lt _ f).2
      omega
  have hl : ∀ k, v.ownBlock = some k → W.heap.size ≤ k ∧ k < w.heap.size := (h.c rfl v rfl).lt
  refine ⟨⟨g.os.trans h.mq.os, g.tape.trans h.mq.tape, g.output.trans h.mq.output, Nat.le_trans h.mq.size g.size, fun k hk hn => (g.block k (Nat.lt_of_lt_of_le hk h.mq.size) (fun e => by have := (hl k e.symm).1; omega)).trans (h.mq.block k hk hn)⟩, ?_, fun u e => (h.a u e).kept g (h.ac rfl u v e rfl), fun u e => (h.b u e).kept g (h.bc rfl u v e rfl), (by intro e; cases e), fun u e => by cases e; exact n, (by intro e; cases e), (by intro e; cases e), h.ab, fun u x f k => by cases k; exact apt u _ (h.a u f) (h.ac rfl u v f rfl), fun u x f k => by cases k; exact apt u _ (h.b u f) (h.bc rfl u v f rfl)⟩
  intro j hj
  obtain ⟨h1, h2⟩ := h.th j hj
  have hb : w'.heap[s]? = w.heap[s]? := g.block s (Nat.lt_of_lt_of_le hs h.mq.size) (fun e => by have := (hl s e.symm).1; omega)
  have e1 : w'.cell? ⟨s, 0 + j, none⟩ = w.cell? ⟨s, 0 + j, none⟩ := by simp only [World.cell?, hb]
  have e2 : w'.frozen? ⟨s, 0 + j, none⟩ = w.frozen? ⟨s, 0 + j, none⟩ := World.frozen?_of_block (w := w) hb
  exact ⟨by rw [e1]; exact h1, by rw [e2]; exact h2⟩
set_option maxRecDepth 20000 in
set_option maxHeartbeats 16000000 in
theorem s_newHart8 (v : Value) (zs : List Int) (b : Nat) (w : World) (h : Nums w b v zs) :
    Calls Tryz.prog 128 #[v] w fun e w' => ∃ r' c' i' o', e = .returned (.agg #[.int .i64 (newR zs).1, r', .int .i64 (newR zs).2.pc, c', .bool (newR zs).2.halted, .bool (newR zs).2.waiting, .bool (newR zs).2.rung, .int .i64 (newR zs).2.done, i', o']) ∧ Hm w' w.heap.size r' c' i' o' (newR zs).2 ∧ Ha r' c' i' o' ∧ Below w.heap.size w w' := by
  have HN : Hid (Nums w b v zs) := h
  obtain ⟨a, k, rfl, _⟩ := h.shape
  obtain ⟨n, hn⟩ : ∃ n, zs.length = n := ⟨_, rfl⟩
  have hl : (n : Int) ≤ 9223372036854775807 := by have := h.lens; unfold maxLen at this; omega
  rw [hn] at HN ⊢
  have HL : Hid (zs.length = n) := hn
  clear h hn
  generalize hW : w.alloc (.cells #[.int .i64 0, .slice none 0 0, .int .i64 0, .slice none 0 0, .bool false, .bool false, .bool false, .int .i64 0, .slice none 0 0, .slice none 0 0] 178) = W
  have B0 : Hid (Below w.heap.size w W) := by show Below _ _ _; rw [← hW]; exact al (Below.refl _ _) _
  obtain ⟨s, hS⟩ : ∃ s, w.heap.size = s := ⟨_, rfl⟩
  have HS : Hid (w.heap.size = s) := hS
  have VR : Hid (Vb W s #[.int .i64 0, .slice none 0 0, .int .i64 0, .slice none 0 0, .bool false, .bool false, .bool false, .int .i64 0, .slice none 0 0, .slice none 0 0] 178) := by
    show Vb _ _ _ _; rw [← hW, ← hS]; exact Vb.new _ _ _
  by_cases h40 : 40 < n
  · have hI : (40 : Int) < (n : Int) := by omega
    have HE1 : Hid ((newR zs).1 = 2) := by show _ = _; unfold newR; rw [HL.out, if_pos h40]
    have HE2 : Hid ((newR zs).2 = voidH) := by show _ = _; unfold newR; rw [HL.out, if_pos h40]
    have p0 := VR.out.cell 0 rfl
    have f0 := VR.out.free 0
    have p1 := VR.out.cell 1 rfl
    have f1 := VR.out.free 1
    have p2 := VR.out.cell 2 rfl
    have f2 := VR.out.free 2
    have p3 := VR.out.cell 3 rfl
    have f3 := VR.out.free 3
    have p4 := VR.out.cell 4 rfl
    have f4 := VR.out.free 4
    have p5 := VR.out.cell 5 rfl
    have f5 := VR.out.free 5
    have p6 := VR.out.cell 6 rfl
    have f6 := VR.out.free 6
    have p7 := VR.out.cell 7 rfl
    have f7 := VR.out.free 7
    have p8 := VR.out.cell 8 rfl
    have f8 := VR.out.free 8
    have p9 := VR.out.cell 9 rfl
    have f9 := VR.out.free 9
    go_enter Tryz.func128, Tryz.ntmps128
    go_wp2_with fail
    clear hW hS
    have NN : Hid (_ ∧ _) := ten VR.out (.int .i64 2) (.slice none 0 0) (.int .i64 0) (.slice none 0 0) (.bool false) (.bool false) (.bool false) (.int .i64 0) (.slice none 0 0) (.slice none 0 0)
    clear p0 f0 p1 f1 p2 f2 p3 f3 p4 f4 p5 f5 p6 f6 p7 f7 p8 f8 p9 f9
    generalize ((((((((((W.setCell ⟨s, 0, none⟩ (.int .i64 2)).setCell ⟨s, 1, none⟩ (.slice none 0 0)).setCell ⟨s, 2, none⟩ (.int .i64 0)).setCell ⟨s, 3, none⟩ (.slice none 0 0)).setCell ⟨s, 4, none⟩ (.bool false)).setCell ⟨s, 5, none⟩ (.bool false)).setCell ⟨s, 6, none⟩ (.bool false)).setCell ⟨s, 7, none⟩ (.int .i64 0)).setCell ⟨s, 8, none⟩ (.slice none 0 0)).setCell ⟨s, 9, none⟩ (.slice none 0 0)) = V at *
    have x0 := NN.out.1.cell 0 rfl
    have x1 := NN.out.1.cell 1 rfl
    have x2 := NN.out.1.cell 2 rfl
    have x3 := NN.out.1.cell 3 rfl
    have x4 := NN.out.1.cell 4 rfl
    have x5 := NN.out.1.cell 5 rfl
    have x6 := NN.out.1.cell 6 rfl
    have x7 := NN.out.1.cell 7 rfl
    have x8 := NN.out.1.cell 8 rfl
    have x9 := NN.out.1.cell 9 rfl
    have BV : Below w.heap.size w V := Mq.under B0.out NN.out.2 fun k e => by have := HS.out; omega
    have MV := NN.out.2
    refine bodyPost_ret (v := .agg #[.int .i64 2, .slice none 0 0, .int .i64 0, .slice none 0 0, .bool false, .bool false, .bool false, .int .i64 0, .slice none 0 0, .slice none 0 0]) (by simp [results, Tryz.results128, go_sem, x0, x1, x2, x3, x4, x5, x6, x7, x8, x9]) rfl ?_
    rw [HE1.out, HE2.out]
    exact ⟨_, _, _, _, rfl, void_hm _ _, void_ha, BV⟩
  have hI : ¬ (40 : Int) < (n : Int) := by omega
  cases hw : zs.all isW
  · have HW : Hid (zs.all isW = false) := hw
    have HE1 : Hid ((newR zs).1 = 3) := by show _ = _; unfold newR; rw [HL.out, if_neg h40, hw]; rfl
    have HE2 : Hid ((newR zs).2 = voidH) := by show _ = _; unfold newR; rw [HL.out, if_neg h40, hw]; rfl
    have p0 := VR.out.cell 0 rfl
    have f0 := VR.out.free 0
    have p1 := VR.out.cell 1 rfl
    have f1 := VR.out.free 1
    have p2 := VR.out.cell 2 rfl
    have f2 := VR.out.free 2
    have p3 := VR.out.cell 3 rfl
    have f3 := VR.out.free 3
    have p4 := VR.out.cell 4 rfl
    have f4 := VR.out.free 4
    have p5 := VR.out.cell 5 rfl
    have f5 := VR.out.free 5
    have p6 := VR.out.cell 6 rfl
    have f6 := VR.out.free 6
    have p7 := VR.out.cell 7 rfl
    have f7 := VR.out.free 7
    have p8 := VR.out.cell 8 rfl
    have f8 := VR.out.free 8
    have p9 := VR.out.cell 9 rfl
    have f9 := VR.out.free 9
    go_enter Tryz.func128, Tryz.ntmps128
    go_wp2_with (go_at_call 96; refine (s_words a n k zs _ (HN.out.rn.stay B0.out)).mono ?_; rintro e y ⟨rfl, hy⟩; rw [hy]; clear hy y; rw [hw])
    clear hW hS
    have NN : Hid (_ ∧ _) := ten VR.out (.int .i64 3) (.slice none 0 0) (.int .i64 0) (.slice none 0 0) (.bool false) (.bool false) (.bool false) (.int .i64 0) (.slice none 0 0) (.slice none 0 0)
    clear p0 f0 p1 f1 p2 f2 p3 f3 p4 f4 p5 f5 p6 f6 p7 f7 p8 f8 p9 f9
    generalize ((((((((((W.setCell ⟨s, 0, none⟩ (.int .i64 3)).setCell ⟨s, 1, none⟩ (.slice none 0 0)).setCell ⟨s, 2, none⟩ (.int .i64 0)).setCell ⟨s, 3, none⟩ (.slice none 0 0)).setCell ⟨s, 4, none⟩ (.bool false)).setCell ⟨s, 5, none⟩ (.bool false)).setCell ⟨s, 6, none⟩ (.bool false)).setCell ⟨s, 7, none⟩ (.int .i64 0)).setCell ⟨s, 8, none⟩ (.slice none 0 0)).setCell ⟨s, 9, none⟩ (.slice none 0 0)) = V at *
    have x0 := NN.out.1.cell 0 rfl
    have x1 := NN.out.1.cell 1 rfl
    have x2 := NN.out.1.cell 2 rfl
    have x3 := NN.out.1.cell 3 rfl
    have x4 := NN.out.1.cell 4 rfl
    have x5 := NN.out.1.cell 5 rfl
    have x6 := NN.out.1.cell 6 rfl
    have x7 := NN.out.1.cell 7 rfl
    have x8 := NN.out.1.cell 8 rfl
    have x9 := NN.out.1.cell 9 rfl
    have BV : Below w.heap.size w V := Mq.under B0.out NN.out.2 fun k e => by have := HS.out; omega
    have MV := NN.out.2
    refine bodyPost_ret (v := .agg #[.int .i64 3, .slice none 0 0, .int .i64 0, .slice none 0 0, .bool false, .bool false, .bool false, .int .i64 0, .slice none 0 0, .slice none 0 0]) (by simp [results, Tryz.results128, go_sem, x0, x1, x2, x3, x4, x5, x6, x7, x8, x9]) rfl ?_
    rw [HE1.out, HE2.out]
    exact ⟨_, _, _, _, rfl, void_hm _ _, void_ha, BV⟩
  have HE1 : Hid ((newR zs).1 = 0) := by show _ = _; unfold newR; rw [HL.out, if_neg h40, hw]; rfl
  have HE2 : Hid ((newR zs).2 = newV zs) := by show _ = _; unfold newR; rw [HL.out, if_neg h40, hw]; rfl
  have H40 : Hid (n ≤ 40) := by show _ ≤ _; omega
  have LT : Hid (s < W.heap.size) := VR.out.lt
  have HX : Hid (∀ w', Mq (fun k => k = s) W w' → (a = none → n = 0 ∧ k = 0) ∧ ∀ ad, a = some ad → ∀ i, i < n → w'.cell? (ad.add i) = some (.int .i64 (zs.getD i 0))) := by
    intro w' m
    have nn : Nums w' b (.slice a n k) zs := m.nums (HN.out.keep B0.out) fun x e f => by have := (HN.out.lt x e).2; have := HS.out; omega
    have rr := nn.rn
    refine ⟨fun e => ?_, fun ad e i hi => ?_⟩
    · subst e
      rcases rr with ⟨_, h1, h2, _⟩ | ⟨x, e, _⟩
      · exact ⟨h1, h2⟩
      · cases e
    · obtain ⟨x, e2, h⟩ := rr.at i hi
      subst e
      cases e2
      exact h
  go_enter Tryz.func128, Tryz.ntmps128
  go_wp2_with (go_at_call 96; refine (s_words a n k zs _ (HN.out.rn.stay B0.out)).mono ?_; rintro e y ⟨rfl, hy⟩; rw [hy]; clear hy y; rw [hw])
  clear hW hS
  have Q0 : Hid (Nx W W.drew s zs none none none none) := ⟨⟨rfl, rfl, rfl, Nat.le_refl _, fun _ _ _ => rfl⟩, VR.out.there 10 (by decide), (by intro v e; cases e), (by intro v e; cases e), (by intro _ v e; cases e), (by intro v e; cases e), (by intro _ v u e; cases e), (by intro _ v u e; cases e), (by intro v u e; cases e), (by intro v u e; cases e), (by intro v u e; cases e)⟩
  refine wp_region_held (S := fun _ => True) (by kernel_rfl) ?_
  change wpAnyH _ _ _ _ _ _ _ _ (World.drew _)
  refine wpTk (i := 3) (v := .slice a n k) rfl (Or.inl ⟨by rfl, fun w' _ => by go_simp⟩) trivial ?_
  change wpAnyH _ _ _ _ _ _ _ (Act.put _ (some 14) _) _
  simp only [Act.put, zT, zZ, zS]
  refine wpAnyH_ready (rs := [0, 1, 2]) (by kernel_rfl) (by simp) ?_
  refine AllReadyH.cons rfl (fun K hK => ?_) ?_
  · refine step_make rfl (.const (.int .i64 16)) (.const (.int .i64 16)) rfl 16 rfl rfl (by decide) ?_
    intro vA wA n1 b1
    have QA : Hid (Nx W wA s zs (some vA) none none none) := Q0.out.mkA LT.out n1 b1
    clear n1 b1
    refine hK.out _ _ trivial (fun _ => ?_)
    clear hK K
    change wpAnyH _ _ _ _ _ _ _ (Act.put _ (some 11) _) _
    simp only [Act.put, zT, zZ, zS]
    refine wpAnyH_ready (rs := [1, 2]) (by kernel_rfl) (by simp) ?_
    refine AllReadyH.cons rfl (fun K hK => ?_) ?_
    · refine step_make rfl (.const (.int .i64 11)) (.const (.int .i64 11)) rfl 11 rfl rfl (by decide) ?_
      intro vB wAB n1 b1
      have QAB : Hid (Nx W wAB s zs (some vA) (some vB) none none) := QA.out.mkB LT.out n1 b1
      clear n1 b1
      refine hK.out _ _ trivial (fun _ => ?_)
      clear hK K
      change wpAnyH _ _ _ _ _ _ _ (Act.put _ (some 12) _) _
      simp only [Act.put, zT, zZ, zS]
      refine wpAnyH_ready (rs := [2]) (by kernel_rfl) (by simp) ?_
      refine AllReadyH.cons rfl (fun K hK => ?_) ?_
      · rw [if_pos (by rfl)]
        go_simp
        have QABC : Hid (Nx W (wAB.alloc (.cells #[] 2)) s zs (some vA) (some vB) (some (.slice (some ⟨wAB.heap.size, 0, none⟩) 0 0)) none) := QAB.out.mkC LT.out (nums_none _ _ (Nat.le_refl _)) (al (Below.refl _ _) _)
        obtain ⟨vC, hvC⟩ : ∃ v, Value.slice (some ⟨wAB.heap.size, 0, none⟩) 0 0 = v := ⟨_, rfl⟩
        obtain ⟨wABC, hwABC⟩ : ∃ w', wAB.alloc (.cells #[] 2) = w' := ⟨_, rfl⟩
        have HvC : ∃ g, vC = Value.slice (some ⟨g, 0, none⟩) 0 0 := ⟨_, hvC.symm⟩
        rw [hvC, hwABC] at QABC
        rw [hvC, hwABC]
        clear hvC hwABC
        refine hK.out _ _ trivial (fun _ => ?_)
        clear hK K
        refine wpAnyH_ready (rs := [4]) (by kernel_rfl) (by simp) ?_
        refine AllReadyH.cons rfl (fun K hK => ?_) ?_
        · obtain ⟨gC, hgC⟩ := HvC
          subst hgC
          refine step_app8 rfl (.tmp 13) (.tmp 14) rfl W.heap.size gC rfl (QABC.out.c rfl _ rfl) a n k zs rfl HL.out (HX.out _ QABC.out.mq).1 (HX.out _ QABC.out.mq).2 (by have := H40.out; omega) QABC.out.mq.size ?_
          intro vD wABCD n1 g1 ho
          have QABCD : Hid (Nx W wABCD s zs (some vA) (some vB) (some (.slice (some ⟨gC, 0, none⟩) 0 0)) (some vD)) := QABC.out.app LT.out n1 g1 ho
          clear n1 g1 ho
          refine hK.out _ _ trivial (fun _ => ?_)
          clear hK K
          change wpAnyH _ _ _ _ _ _ _ (Act.put _ (some 15) _) _
          simp only [Act.put, zT, zZ, zS]
          obtain ⟨ga, gk, hga, _⟩ := (QABCD.out.a _ rfl).shape
          obtain ⟨ha, hk', hha, _⟩ := (QABCD.out.b _ rfl).shape
          obtain ⟨ia, ik, hia, _⟩ := (QABCD.out.d _ rfl).shape
          rw [List.length_replicate] at hga hha
          have AB : Hid (Apt _ _) := QABCD.out.ab _ _ rfl rfl
          have AD : Hid (Apt _ _) := QABCD.out.ad _ _ rfl rfl
          have BD : Hid (Apt _ _) := QABCD.out.bd _ _ rfl rfl
          rw [HL.out] at hia
          subst hga hha hia
          refine wpTk (i := 5) (v := .agg #[.slice ga 16 gk, .int .i64 0, .slice ha 11 hk', .bool false, .bool false, .bool false, .int .i64 0, .slice ia n ik, .slice none 0 0]) rfl (Or.inl ⟨by rfl, fun w' _ => by go_simp⟩) trivial ?_
          change wpAnyH _ _ _ _ _ _ _ (Act.put _ (some 16) _) _
          simp only [Act.put, zT, zZ, zS]
          refine wpTk (i := 6) (v := .agg #[.int .i64 0, .slice ga 16 gk, .int .i64 0, .slice ha 11 hk', .bool false, .bool false, .bool false, .int .i64 0, .slice ia n ik, .slice none 0 0]) rfl (Or.inl ⟨by rfl, fun w' _ => by go_simp⟩) trivial ?_
          change wpAnyH _ _ _ _ _ _ _ (Act.put _ (some 17) _) _
          simp only [Act.put, zT, zZ, zS]
          refine zR 7 rfl fun K hK => ?_
          rw [if_pos (by rfl)]
          refine wp_store_mid 178 (.tmp 2) (.tmp 17) rfl s 0 #[.int .i64 0, .slice ga 16 gk, .int .i64 0, .slice ha 11 hk', .bool false, .bool false, .bool false, .int .i64 0, .slice ia n ik, .slice none 0 0] rfl rfl QABCD.out.th (by kernel_rfl) (by simp [Value.oneCell']) ?_
          change K (Act.put _ none undef) (World.setCells wABCD s 0 [.int .i64 0, .slice ga 16 gk, .int .i64 0, .slice ha 11 hk', .bool false, .bool false, .bool false, .int .i64 0, .slice ia n ik, .slice none 0 0])
          simp only [Act.put]
          have R5 : Hid ((wABCD.setCells s 0 [.int .i64 0, .slice ga 16 gk, .int .i64 0, .slice ha 11 hk', .bool false, .bool false, .bool false, .int .i64 0, .slice ia n ik, .slice none 0 0]).rangeAt s 0 [.int .i64 0, .slice ga 16 gk, .int .i64 0, .slice ha 11 hk', .bool false, .bool false, .bool false, .int .i64 0, .slice ia n ik, .slice none 0 0]) := World.rangeAt_setCells_same _ _ _ _ QABCD.out.th
          have M5 : Hid (Mq (fun k => k = s) wABCD (wABCD.setCells s 0 [.int .i64 0, .slice ga 16 gk, .int .i64 0, .slice ha 11 hk', .bool false, .bool false, .bool false, .int .i64 0, .slice ia n ik, .slice none 0 0])) := mq_cells s _ wABCD 0
          generalize wABCD.setCells s 0 [.int .i64 0, .slice ga 16 gk, .int .i64 0, .slice ha 11 hk', .bool false, .bool false, .bool false, .int .i64 0, .slice ia n ik, .slice none 0 0] = w5 at *
          refine hK.out _ _ trivial (fun _ => ?_)
          clear hK K
          refine wpAnyH_done (by kernel_rfl) ?_ _
          have no : ∀ (v : Value) (ys : List Int), Nums wABCD W.heap.size v ys → Nums w5 W.heap.size v ys := fun v ys h => M5.out.nums h fun k e f => by have := (h.lt k e).1; have := LT.out; omega
          have Q1 := no _ _ (QABCD.out.a _ rfl)
          have Q2 := no _ _ (QABCD.out.b _ rfl)
          have Q3 := no _ _ (QABCD.out.d _ rfl)
          have B5 : Below w.heap.size w w5 := Mq.under B0.out (QABCD.out.mq.trans M5.out) fun k e => by have := HS.out; omega
          have LD := run_loadVar_mid (P := Tryz.prog) w5 s 0 178 [.int .i64 0, .slice ga 16 gk, .int .i64 0, .slice ha 11 hk', .bool false, .bool false, .bool false, .int .i64 0, .slice ia n ik, .slice none 0 0] _ R5.out Tryz.underlying178 rfl (by kernel_rfl)
          go_wp2_with fail
          refine bodyPost_ret (v := .agg #[.int .i64 0, .slice ga 16 gk, .int .i64 0, .slice ha 11 hk', .bool false, .bool false, .bool false, .int .i64 0, .slice ia n ik, .slice none 0 0]) (by simp [results, Tryz.results128, asAddr]; rw [LD]) rfl ?_
          rw [HE1.out, HE2.out]
          exact ⟨_, _, _, _, rfl, ⟨Q1.mono B0.out.size, Q2.mono B0.out.size, Q3.mono B0.out.size, Nums.nil _ _⟩, ⟨AB.out, AD.out, Apt.swap (.inl rfl), BD.out, Apt.swap (.inl rfl), Apt.swap (.inl rfl)⟩, B5⟩
        exact AllReadyH.nil
      exact AllReadyH.nil
    refine AllReadyH.cons rfl (fun K hK => ?_) ?_
    · rw [if_pos (by rfl)]
      go_simp
      have QAC : Hid (Nx W (wA.alloc (.cells #[] 2)) s zs (some vA) none (some (.slice (some ⟨wA.heap.size, 0, none⟩) 0 0)) none) := QA.out.mkC LT.out (nums_none _ _ (Nat.le_refl _)) (al (Below.refl _ _) _)
      obtain ⟨vC, hvC⟩ : ∃ v, Value.slice (some ⟨wA.heap.size, 0, none⟩) 0 0 = v := ⟨_, rfl⟩
      obtain ⟨wAC, hwAC⟩ : ∃ w', wA.alloc (.cells #[] 2) = w' := ⟨_, rfl⟩
      have HvC : ∃ g, vC = Value.slice (some ⟨g, 0, none⟩) 0 0 := ⟨_, hvC.symm⟩
      rw [hvC, hwAC] at QAC
      rw [hvC, hwAC]
      clear hvC hwAC
      refine hK.out _ _ trivial (fun _ => ?_)
      clear hK K
      refine wpAnyH_ready (rs := [1, 4]) (by kernel_rfl) (by simp) ?_
      refine AllReadyH.cons rfl (fun K hK => ?_) ?_
      · refine step_make rfl (.const (.int .i64 11)) (.const (.int .i64 11)) rfl 11 rfl rfl (by decide) ?_
        intro vB wACB n1 b1
        have QACB : Hid (Nx W wACB s zs (some vA) (some vB) (some vC) none) := QAC.out.mkB LT.out n1 b1
        clear n1 b1
        refine hK.out _ _ trivial (fun _ => ?_)
        clear hK K
        change wpAnyH _ _ _ _ _ _ _ (Act.put _ (some 12) _) _
        simp only [Act.put, zT, zZ, zS]
        refine wpAnyH_ready (rs := [4]) (by kernel_rfl) (by simp) ?_
        refine AllReadyH.cons rfl (fun K hK => ?_) ?_
        · obtain ⟨gC, hgC⟩ := HvC
          subst hgC
          refine step_app8 rfl (.tmp 13) (.tmp 14) rfl W.heap.size gC rfl (QACB.out.c rfl _ rfl) a n k zs rfl HL.out (HX.out _ QACB.out.mq).1 (HX.out _ QACB.out.mq).2 (by have := H40.out; omega) QACB.out.mq.size ?_
          intro vD wACBD n1 g1 ho
          have QACBD : Hid (Nx W wACBD s zs (some vA) (some vB) (some (.slice (some ⟨gC, 0, none⟩) 0 0)) (some vD)) := QACB.out.app LT.out n1 g1 ho
          clear n1 g1 ho
          refine hK.out _ _ trivial (fun _ => ?_)
          clear hK K
          change wpAnyH _ _ _ _ _ _ _ (Act.put _ (some 15) _) _
          simp only [Act.put, zT, zZ, zS]
          obtain ⟨ga, gk, hga, _⟩ := (QACBD.out.a _ rfl).shape
          obtain ⟨ha, hk', hha, _⟩ := (QACBD.out.b _ rfl).shape
          obtain ⟨ia, ik, hia, _⟩ := (QACBD.out.d _ rfl).shape
          rw [List.length_replicate] at hga hha
          have AB : Hid (Apt _ _) := QACBD.out.ab _ _ rfl rfl
          have AD : Hid (Apt _ _) := QACBD.out.ad _ _ rfl rfl
          have BD : Hid (Apt _ _) := QACBD.out.bd _ _ rfl rfl
          rw [HL.out] at hia
          subst hga hha hia
          refine wpTk (i := 5) (v := .agg #[.slice ga 16 gk, .int .i64 0, .slice ha 11 hk', .bool false, .bool false, .bool false, .int .i64 0, .slice ia n ik, .slice none 0 0]) rfl (Or.inl ⟨by rfl, fun w' _ => by go_simp⟩) trivial ?_
          change wpAnyH _ _ _ _ _ _ _ (Act.put _ (some 16) _) _
          simp only [Act.put, zT, zZ, zS]
          refine wpTk (i := 6) (v := .agg #[.int .i64 0, .slice ga 16 gk, .int .i64 0, .slice ha 11 hk', .bool false, .bool false, .bool false, .int .i64 0, .slice ia n ik, .slice none 0 0]) rfl (Or.inl ⟨by rfl, fun w' _ => by go_simp⟩) trivial ?_
          change wpAnyH _ _ _ _ _ _ _ (Act.put _ (some 17) _) _
          simp only [Act.put, zT, zZ, zS]
          refine zR 7 rfl fun K hK => ?_
          rw [if_pos (by rfl)]
          refine wp_store_mid 178 (.tmp 2) (.tmp 17) rfl s 0 #[.int .i64 0, .slice ga 16 gk, .int .i64 0, .slice ha 11 hk', .bool false, .bool false, .bool false, .int .i64 0, .slice ia n ik, .slice none 0 0] rfl rfl QACBD.out.th (by kernel_rfl) (by simp [Value.oneCell']) ?_
          change K (Act.put _ none undef) (World.setCells wACBD s 0 [.int .i64 0, .slice ga 16 gk, .int .i64 0, .slice ha 11 hk', .bool false, .bool false, .bool false, .int .i64 0, .slice ia n ik, .slice none 0 0])
          simp only [Act.put]
          have R5 : Hid ((wACBD.setCells s 0 [.int .i64 0, .slice ga 16 gk, .int .i64 0, .slice ha 11 hk', .bool false, .bool false, .bool false, .int .i64 0, .slice ia n ik, .slice none 0 0]).rangeAt s 0 [.int .i64 0, .slice ga 16 gk, .int .i64 0, .slice ha 11 hk', .bool false, .bool false, .bool false, .int .i64 0, .slice ia n ik, .slice none 0 0]) := World.rangeAt_setCells_same _ _ _ _ QACBD.out.th
          have M5 : Hid (Mq (fun k => k = s) wACBD (wACBD.setCells s 0 [.int .i64 0, .slice ga 16 gk, .int .i64 0, .slice ha 11 hk', .bool false, .bool false, .bool false, .int .i64 0, .slice ia n ik, .slice none 0 0])) := mq_cells s _ wACBD 0
          generalize wACBD.setCells s 0 [.int .i64 0, .slice ga 16 gk, .int .i64 0, .slice ha 11 hk', .bool false, .bool false, .bool false, .int .i64 0, .slice ia n ik, .slice none 0 0] = w5 at *
          refine hK.out _ _ trivial (fun _ => ?_)
          clear hK K
          refine wpAnyH_done (by kernel_rfl) ?_ _
          have no : ∀ (v : Value) (ys : List Int), Nums wACBD W.heap.size v ys → Nums w5 W.heap.size v ys := fun v ys h => M5.out.nums h fun k e f => by have := (h.lt k e).1; have := LT.out; omega
          have Q1 := no _ _ (QACBD.out.a _ rfl)
          have Q2 := no _ _ (QACBD.out.b _ rfl)
          have Q3 := no _ _ (QACBD.out.d _ rfl)
          have B5 : Below w.heap.size w w5 := Mq.under B0.out (QACBD.out.mq.trans M5.out) fun k e => by have := HS.out; omega
          have LD := run_loadVar_mid (P := Tryz.prog) w5 s 0 178 [.int .i64 0, .slice ga 16 gk, .int .i64 0, .slice ha 11 hk', .bool false, .bool false, .bool false, .int .i64 0, .slice ia n ik, .slice none 0 0] _ R5.out Tryz.underlying178 rfl (by kernel_rfl)
          go_wp2_with fail
          refine bodyPost_ret (v := .agg #[.int .i64 0, .slice ga 16 gk, .int .i64 0, .slice ha 11 hk', .bool false, .bool false, .bool false, .int .i64 0, .slice ia n ik, .slice none 0 0]) (by simp [results, Tryz.results128, asAddr]; rw [LD]) rfl ?_
          rw [HE1.out, HE2.out]
          exact ⟨_, _, _, _, rfl, ⟨Q1.mono B0.out.size, Q2.mono B0.out.size, Q3.mono B0.out.size, Nums.nil _ _⟩, ⟨AB.out, AD.out, Apt.swap (.inl rfl), BD.out, Apt.swap (.inl rfl), Apt.swap (.inl rfl)⟩, B5⟩
        exact AllReadyH.nil
      refine AllReadyH.cons rfl (fun K hK => ?_) ?_
      · obtain ⟨gC, hgC⟩ := HvC
        subst hgC
        refine step_app8 rfl (.tmp 13) (.tmp 14) rfl W.heap.size gC rfl (QAC.out.c rfl _ rfl) a n k zs rfl HL.out (HX.out _ QAC.out.mq).1 (HX.out _ QAC.out.mq).2 (by have := H40.out; omega) QAC.out.mq.size ?_
        intro vD wACD n1 g1 ho
        have QACD : Hid (Nx W wACD s zs (some vA) none (some (.slice (some ⟨gC, 0, none⟩) 0 0)) (some vD)) := QAC.out.app LT.out n1 g1 ho
        clear n1 g1 ho
        refine hK.out _ _ trivial (fun _ => ?_)
        clear hK K
        change wpAnyH _ _ _ _ _ _ _ (Act.put _ (some 15) _) _
        simp only [Act.put, zT, zZ, zS]
        refine wpAnyH_ready (rs := [1]) (by kernel_rfl) (by simp) ?_
        refine AllReadyH.cons rfl (fun K hK => ?_) ?_
        · refine step_make rfl (.const (.int .i64 11)) (.const (.int .i64 11)) rfl 11 rfl rfl (by decide) ?_
          intro vB wACDB n1 b1
          have QACDB : Hid (Nx W wACDB s zs (some vA) (some vB) (some (.slice (some ⟨gC, 0, none⟩) 0 0)) (some vD)) := QACD.out.mkB LT.out n1 b1
          clear n1 b1
          refine hK.out _ _ trivial (fun _ => ?_)
          clear hK K
          change wpAnyH _ _ _ _ _ _ _ (Act.put _ (some 12) _) _
          simp only [Act.put, zT, zZ, zS]
          obtain ⟨ga, gk, hga, _⟩ := (QACDB.out.a _ rfl).shape
          obtain ⟨ha, hk', hha, _⟩ := (QACDB.out.b _ rfl).shape
          obtain ⟨ia, ik, hia, _⟩ := (QACDB.out.d _ rfl).shape
          rw [List.length_replicate] at hga hha
          have AB : Hid (Apt _ _) := QACDB.out.ab _ _ rfl rfl
          have AD : Hid (Apt _ _) := QACDB.out.ad _ _ rfl rfl
          have BD : Hid (Apt _ _) := QACDB.out.bd _ _ rfl rfl
          rw [HL.out] at hia
          subst hga hha hia
          refine wpTk (i := 5) (v := .agg #[.slice ga 16 gk, .int .i64 0, .slice ha 11 hk', .bool false, .bool false, .bool false, .int .i64 0, .slice ia n ik, .slice none 0 0]) rfl (Or.inl ⟨by rfl, fun w' _ => by go_simp⟩) trivial ?_
          change wpAnyH _ _ _ _ _ _ _ (Act.put _ (some 16) _) _
          simp only [Act.put, zT, zZ, zS]
          refine wpTk (i := 6) (v := .agg #[.int .i64 0, .slice ga 16 gk, .int .i64 0, .slice ha 11 hk', .bool false, .bool false, .bool false, .int .i64 0, .slice ia n ik, .slice none 0 0]) rfl (Or.inl ⟨by rfl, fun w' _ => by go_simp⟩) trivial ?_
          change wpAnyH _ _ _ _ _ _ _ (Act.put _ (some 17) _) _
          simp only [Act.put, zT, zZ, zS]
          refine zR 7 rfl fun K hK => ?_
          rw [if_pos (by rfl)]
          refine wp_store_mid 178 (.tmp 2) (.tmp 17) rfl s 0 #[.int .i64 0, .slice ga 16 gk, .int .i64 0, .slice ha 11 hk', .bool false, .bool false, .bool false, .int .i64 0, .slice ia n ik, .slice none 0 0] rfl rfl QACDB.out.th (by kernel_rfl) (by simp [Value.oneCell']) ?_
          change K (Act.put _ none undef) (World.setCells wACDB s 0 [.int .i64 0, .slice ga 16 gk, .int .i64 0, .slice ha 11 hk', .bool false, .bool false, .bool false, .int .i64 0, .slice ia n ik, .slice none 0 0])
          simp only [Act.put]
          have R5 : Hid ((wACDB.setCells s 0 [.int .i64 0, .slice ga 16 gk, .int .i64 0, .slice ha 11 hk', .bool false, .bool false, .bool false, .int .i64 0, .slice ia n ik, .slice none 0 0]).rangeAt s 0 [.int .i64 0, .slice ga 16 gk, .int .i64 0, .slice ha 11 hk', .bool false, .bool false, .bool false, .int .i64 0, .slice ia n ik, .slice none 0 0]) := World.rangeAt_setCells_same _ _ _ _ QACDB.out.th
          have M5 : Hid (Mq (fun k => k = s) wACDB (wACDB.setCells s 0 [.int .i64 0, .slice ga 16 gk, .int .i64 0, .slice ha 11 hk', .bool false, .bool false, .bool false, .int .i64 0, .slice ia n ik, .slice none 0 0])) := mq_cells s _ wACDB 0
          generalize wACDB.setCells s 0 [.int .i64 0, .slice ga 16 gk, .int .i64 0, .slice ha 11 hk', .bool false, .bool false, .bool false, .int .i64 0, .slice ia n ik, .slice none 0 0] = w5 at *
          refine hK.out _ _ trivial (fun _ => ?_)
          clear hK K
          refine wpAnyH_done (by kernel_rfl) ?_ _
          have no : ∀ (v : Value) (ys : List Int), Nums wACDB W.heap.size v ys → Nums w5 W.heap.size v ys := fun v ys h => M5.out.nums h fun k e f => by have := (h.lt k e).1; have := LT.out; omega
          have Q1 := no _ _ (QACDB.out.a _ rfl)
          have Q2 := no _ _ (QACDB.out.b _ rfl)
          have Q3 := no _ _ (QACDB.out.d _ rfl)
          have B5 : Below w.heap.size w w5 := Mq.under B0.out (QACDB.out.mq.trans M5.out) fun k e => by have := HS.out; omega
          have LD := run_loadVar_mid (P := Tryz.prog) w5 s 0 178 [.int .i64 0, .slice ga 16 gk, .int .i64 0, .slice ha 11 hk', .bool false, .bool false, .bool false, .int .i64 0, .slice ia n ik, .slice none 0 0] _ R5.out Tryz.underlying178 rfl (by kernel_rfl)
          go_wp2_with fail
          refine bodyPost_ret (v := .agg #[.int .i64 0, .slice ga 16 gk, .int .i64 0, .slice ha 11 hk', .bool false, .bool false, .bool false, .int .i64 0, .slice ia n ik, .slice none 0 0]) (by simp [results, Tryz.results128, asAddr]; rw [LD]) rfl ?_
          rw [HE1.out, HE2.out]
          exact ⟨_, _, _, _, rfl, ⟨Q1.mono B0.out.size, Q2.mono B0.out.size, Q3.mono B0.out.size, Nums.nil _ _⟩, ⟨AB.out, AD.out, Apt.swap (.inl rfl), BD.out, Apt.swap (.inl rfl), Apt.swap (.inl rfl)⟩, B5⟩
        exact AllReadyH.nil
      exact AllReadyH.nil
    exact AllReadyH.nil
  refine AllReadyH.cons rfl (fun K hK => ?_) ?_
  · refine step_make rfl (.const (.int .i64 11)) (.const (.int .i64 11)) rfl 11 rfl rfl (by decide) ?_
    intro vB wB n1 b1
    have QB : Hid (Nx W wB s zs none (some vB) none none) := Q0.out.mkB LT.out n1 b1
    clear n1 b1
    refine hK.out _ _ trivial (fun _ => ?_)
    clear hK K
    change wpAnyH _ _ _ _ _ _ _ (Act.put _ (some 12) _) _
    simp only [Act.put, zT, zZ, zS]
    refine wpAnyH_ready (rs := [0, 2]) (by kernel_rfl) (by simp) ?_
    refine AllReadyH.cons rfl (fun K hK => ?_) ?_
    · refine step_make rfl (.const (.int .i64 16)) (.const (.int .i64 16)) rfl 16 rfl rfl (by decide) ?_
      intro vA wBA n1 b1
      have QBA : Hid (Nx W wBA s zs (some vA) (some vB) none none) := QB.out.mkA LT.out n1 b1
      clear n1 b1
      refine hK.out _ _ trivial (fun _ => ?_)
      clear hK K
      change wpAnyH _ _ _ _ _ _ _ (Act.put _ (some 11) _) _
      simp only [Act.put, zT, zZ, zS]
      refine wpAnyH_ready (rs := [2]) (by kernel_rfl) (by simp) ?_
      refine AllReadyH.cons rfl (fun K hK => ?_) ?_
      · rw [if_pos (by rfl)]
        go_simp
        have QBAC : Hid (Nx W (wBA.alloc (.cells #[] 2)) s zs (some vA) (some vB) (some (.slice (some ⟨wBA.heap.size, 0, none⟩) 0 0)) none) := QBA.out.mkC LT.out (nums_none _ _ (Nat.le_refl _)) (al (Below.refl _ _) _)
        obtain ⟨vC, hvC⟩ : ∃ v, Value.slice (some ⟨wBA.heap.size, 0, none⟩) 0 0 = v := ⟨_, rfl⟩
        obtain ⟨wBAC, hwBAC⟩ : ∃ w', wBA.alloc (.cells #[] 2) = w' := ⟨_, rfl⟩
        have HvC : ∃ g, vC = Value.slice (some ⟨g, 0, none⟩) 0 0 := ⟨_, hvC.symm⟩
        rw [hvC, hwBAC] at QBAC
        rw [hvC, hwBAC]
        clear hvC hwBAC
        refine hK.out _ _ trivial (fun _ => ?_)
        clear hK K
        refine wpAnyH_ready (rs := [4]) (by kernel_rfl) (by simp) ?_
        refine AllReadyH.cons rfl (fun K hK => ?_) ?_
        · obtain ⟨gC, hgC⟩ := HvC
          subst hgC
          refine step_app8 rfl (.tmp 13) (.tmp 14) rfl W.heap.size gC rfl (QBAC.out.c rfl _ rfl) a n k zs rfl HL.out (HX.out _ QBAC.out.mq).1 (HX.out _ QBAC.out.mq).2 (by have := H40.out; omega) QBAC.out.mq.size ?_
          intro vD wBACD n1 g1 ho
          have QBACD : Hid (Nx W wBACD s zs (some vA) (some vB) (some (.slice (some ⟨gC, 0, none⟩) 0 0)) (some vD)) := QBAC.out.app LT.out n1 g1 ho
          clear n1 g1 ho
          refine hK.out _ _ trivial (fun _ => ?_)
          clear hK K
          change wpAnyH _ _ _ _ _ _ _ (Act.put _ (some 15) _) _
          simp only [Act.put, zT, zZ, zS]
          obtain ⟨ga, gk, hga, _⟩ := (QBACD.out.a _ rfl).shape
          obtain ⟨ha, hk', hha, _⟩ := (QBACD.out.b _ rfl).shape
          obtain ⟨ia, ik, hia, _⟩ := (QBACD.out.d _ rfl).shape
          rw [List.length_replicate] at hga hha
          have AB : Hid (Apt _ _) := QBACD.out.ab _ _ rfl rfl
          have AD : Hid (Apt _ _) := QBACD.out.ad _ _ rfl rfl
          have BD : Hid (Apt _ _) := QBACD.out.bd _ _ rfl rfl
          rw [HL.out] at hia
          subst hga hha hia
          refine wpTk (i := 5) (v := .agg #[.slice ga 16 gk, .int .i64 0, .slice ha 11 hk', .bool false, .bool false, .bool false, .int .i64 0, .slice ia n ik, .slice none 0 0]) rfl (Or.inl ⟨by rfl, fun w' _ => by go_simp⟩) trivial ?_
          change wpAnyH _ _ _ _ _ _ _ (Act.put _ (some 16) _) _
          simp only [Act.put, zT, zZ, zS]
          refine wpTk (i := 6) (v := .agg #[.int .i64 0, .slice ga 16 gk, .int .i64 0, .slice ha 11 hk', .bool false, .bool false, .bool false, .int .i64 0, .slice ia n ik, .slice none 0 0]) rfl (Or.inl ⟨by rfl, fun w' _ => by go_simp⟩) trivial ?_
          change wpAnyH _ _ _ _ _ _ _ (Act.put _ (some 17) _) _
          simp only [Act.put, zT, zZ, zS]
          refine zR 7 rfl fun K hK => ?_
          rw [if_pos (by rfl)]
          refine wp_store_mid 178 (.tmp 2) (.tmp 17) rfl s 0 #[.int .i64 0, .slice ga 16 gk, .int .i64 0, .slice ha 11 hk', .bool false, .bool false, .bool false, .int .i64 0, .slice ia n ik, .slice none 0 0] rfl rfl QBACD.out.th (by kernel_rfl) (by simp [Value.oneCell']) ?_
          change K (Act.put _ none undef) (World.setCells wBACD s 0 [.int .i64 0, .slice ga 16 gk, .int .i64 0, .slice ha 11 hk', .bool false, .bool false, .bool false, .int .i64 0, .slice ia n ik, .slice none 0 0])
          simp only [Act.put]
          have R5 : Hid ((wBACD.setCells s 0 [.int .i64 0, .slice ga 16 gk, .int .i64 0, .slice ha 11 hk', .bool false, .bool false, .bool false, .int .i64 0, .slice ia n ik, .slice none 0 0]).rangeAt s 0 [.int .i64 0, .slice ga 16 gk, .int .i64 0, .slice ha 11 hk', .bool false, .bool false, .bool false, .int .i64 0, .slice ia n ik, .slice none 0 0]) := World.rangeAt_setCells_same _ _ _ _ QBACD.out.th
          have M5 : Hid (Mq (fun k => k = s) wBACD (wBACD.setCells s 0 [.int .i64 0, .slice ga 16 gk, .int .i64 0, .slice ha 11 hk', .bool false, .bool false, .bool false, .int .i64 0, .slice ia n ik, .slice none 0 0])) := mq_cells s _ wBACD 0
          generalize wBACD.setCells s 0 [.int .i64 0, .slice ga 16 gk, .int .i64 0, .slice ha 11 hk', .bool false, .bool false, .bool false, .int .i64 0, .slice ia n ik, .slice none 0 0] = w5 at *
          refine hK.out _ _ trivial (fun _ => ?_)
          clear hK K
          refine wpAnyH_done (by kernel_rfl) ?_ _
          have no : ∀ (v : Value) (ys : List Int), Nums wBACD W.heap.size v ys → Nums w5 W.heap.size v ys := fun v ys h => M5.out.nums h fun k e f => by have := (h.lt k e).1; have := LT.out; omega
          have Q1 := no _ _ (QBACD.out.a _ rfl)
          have Q2 := no _ _ (QBACD.out.b _ rfl)
          have Q3 := no _ _ (QBACD.out.d _ rfl)
          have B5 : Below w.heap.size w w5 := Mq.under B0.out (QBACD.out.mq.trans M5.out) fun k e => by have := HS.out; omega
          have LD := run_loadVar_mid (P := Tryz.prog) w5 s 0 178 [.int .i64 0, .slice ga 16 gk, .int .i64 0, .slice ha 11 hk', .bool false, .bool false, .bool false, .int .i64 0, .slice ia n ik, .slice none 0 0] _ R5.out Tryz.underlying178 rfl (by kernel_rfl)
          go_wp2_with fail
          refine bodyPost_ret (v := .agg #[.int .i64 0, .slice ga 16 gk, .int .i64 0, .slice ha 11 hk', .bool false, .bool false, .bool false, .int .i64 0, .slice ia n ik, .slice none 0 0]) (by simp [results, Tryz.results128, asAddr]; rw [LD]) rfl ?_
          rw [HE1.out, HE2.out]
          exact ⟨_, _, _, _, rfl, ⟨Q1.mono B0.out.size, Q2.mono B0.out.size, Q3.mono B0.out.size, Nums.nil _ _⟩, ⟨AB.out, AD.out, Apt.swap (.inl rfl), BD.out, Apt.swap (.inl rfl), Apt.swap (.inl rfl)⟩, B5⟩
        exact AllReadyH.nil
      exact AllReadyH.nil
    refine AllReadyH.cons rfl (fun K hK => ?_) ?_
    · rw [if_pos (by rfl)]
      go_simp
      have QBC : Hid (Nx W (wB.alloc (.cells #[] 2)) s zs none (some vB) (some (.slice (some ⟨wB.heap.size, 0, none⟩) 0 0)) none) := QB.out.mkC LT.out (nums_none _ _ (Nat.le_refl _)) (al (Below.refl _ _) _)
      obtain ⟨vC, hvC⟩ : ∃ v, Value.slice (some ⟨wB.heap.size, 0, none⟩) 0 0 = v := ⟨_, rfl⟩
      obtain ⟨wBC, hwBC⟩ : ∃ w', wB.alloc (.cells #[] 2) = w' := ⟨_, rfl⟩
      have HvC : ∃ g, vC = Value.slice (some ⟨g, 0, none⟩) 0 0 := ⟨_, hvC.symm⟩
      rw [hvC, hwBC] at QBC
      rw [hvC, hwBC]
      clear hvC hwBC
      refine hK.out _ _ trivial (fun _ => ?_)
      clear hK K
      refine wpAnyH_ready (rs := [0, 4]) (by kernel_rfl) (by simp) ?_
      refine AllReadyH.cons rfl (fun K hK => ?_) ?_
      · refine step_make rfl (.const (.int .i64 16)) (.const (.int .i64 16)) rfl 16 rfl rfl (by decide) ?_
        intro vA wBCA n1 b1
        have QBCA : Hid (Nx W wBCA s zs (some vA) (some vB) (some vC) none) := QBC.out.mkA LT.out n1 b1
        clear n1 b1
        refine hK.out _ _ trivial (fun _ => ?_)
        clear hK K
        change wpAnyH _ _ _ _ _ _ _ (Act.put _ (some 11) _) _
        simp only [Act.put, zT, zZ, zS]
        refine wpAnyH_ready (rs := [4]) (by kernel_rfl) (by simp) ?_
        refine AllReadyH.cons rfl (fun K hK => ?_) ?_
        · obtain ⟨gC, hgC⟩ := HvC
          subst hgC
          refine step_app8 rfl (.tmp 13) (.tmp 14) rfl W.heap.size gC rfl (QBCA.out.c rfl _ rfl) a n k zs rfl HL.out (HX.out _ QBCA.out.mq).1 (HX.out _ QBCA.out.mq).2 (by have := H40.out; omega) QBCA.out.mq.size ?_
          intro vD wBCAD n1 g1 ho
          have QBCAD : Hid (Nx W wBCAD s zs (some vA) (some vB) (some (.slice (some ⟨gC, 0, none⟩) 0 0)) (some vD)) := QBCA.out.app LT.out n1 g1 ho
          clear n1 g1 ho
          refine hK.out _ _ trivial (fun _ => ?_)
          clear hK K
          change wpAnyH _ _ _ _ _ _ _ (Act.put _ (some 15) _) _
          simp only [Act.put, zT, zZ, zS]
          obtain ⟨ga, gk, hga, _⟩ := (QBCAD.out.a _ rfl).shape
          obtain ⟨ha, hk', hha, _⟩ := (QBCAD.out.b _ rfl).shape
          obtain ⟨ia, ik, hia, _⟩ := (QBCAD.out.d _ rfl).shape
          rw [List.length_replicate] at hga hha
          have AB : Hid (Apt _ _) := QBCAD.out.ab _ _ rfl rfl
          have AD : Hid (Apt _ _) := QBCAD.out.ad _ _ rfl rfl
          have BD : Hid (Apt _ _) := QBCAD.out.bd _ _ rfl rfl
          rw [HL.out] at hia
          subst hga hha hia
          refine wpTk (i := 5) (v := .agg #[.slice ga 16 gk, .int .i64 0, .slice ha 11 hk', .bool false, .bool false, .bool false, .int .i64 0, .slice ia n ik, .slice none 0 0]) rfl (Or.inl ⟨by rfl, fun w' _ => by go_simp⟩) trivial ?_
          change wpAnyH _ _ _ _ _ _ _ (Act.put _ (some 16) _) _
          simp only [Act.put, zT, zZ, zS]
          refine wpTk (i := 6) (v := .agg #[.int .i64 0, .slice ga 16 gk, .int .i64 0, .slice ha 11 hk', .bool false, .bool false, .bool false, .int .i64 0, .slice ia n ik, .slice none 0 0]) rfl (Or.inl ⟨by rfl, fun w' _ => by go_simp⟩) trivial ?_
          change wpAnyH _ _ _ _ _ _ _ (Act.put _ (some 17) _) _
          simp only [Act.put, zT, zZ, zS]
          refine zR 7 rfl fun K hK => ?_
          rw [if_pos (by rfl)]
          refine wp_store_mid 178 (.tmp 2) (.tmp 17) rfl s 0 #[.int .i64 0, .slice ga 16 gk, .int .i64 0, .slice ha 11 hk', .bool false, .bool false, .bool false, .int .i64 0, .slice ia n ik, .slice none 0 0] rfl rfl QBCAD.out.th (by kernel_rfl) (by simp [Value.oneCell']) ?_
          change K (Act.put _ none undef) (World.setCells wBCAD s 0 [.int .i64 0, .slice ga 16 gk, .int .i64 0, .slice ha 11 hk', .bool false, .bool false, .bool false, .int .i64 0, .slice ia n ik, .slice none 0 0])
          simp only [Act.put]
          have R5 : Hid ((wBCAD.setCells s 0 [.int .i64 0, .slice ga 16 gk, .int .i64 0, .slice ha 11 hk', .bool false, .bool false, .bool false, .int .i64 0, .slice ia n ik, .slice none 0 0]).rangeAt s 0 [.int .i64 0, .slice ga 16 gk, .int .i64 0, .slice ha 11 hk', .bool false, .bool false, .bool false, .int .i64 0, .slice ia n ik, .slice none 0 0]) := World.rangeAt_setCells_same _ _ _ _ QBCAD.out.th
          have M5 : Hid (Mq (fun k => k = s) wBCAD (wBCAD.setCells s 0 [.int .i64 0, .slice ga 16 gk, .int .i64 0, .slice ha 11 hk', .bool false, .bool false, .bool false, .int .i64 0, .slice ia n ik, .slice none 0 0])) := mq_cells s _ wBCAD 0
          generalize wBCAD.setCells s 0 [.int .i64 0, .slice ga 16 gk, .int .i64 0, .slice ha 11 hk', .bool false, .bool false, .bool false, .int .i64 0, .slice ia n ik, .slice none 0 0] = w5 at *
          refine hK.out _ _ trivial (fun _ => ?_)
          clear hK K
          refine wpAnyH_done (by kernel_rfl) ?_ _
          have no : ∀ (v : Value) (ys : List Int), Nums wBCAD W.heap.size v ys → Nums w5 W.heap.size v ys := fun v ys h => M5.out.nums h fun k e f => by have := (h.lt k e).1; have := LT.out; omega
          have Q1 := no _ _ (QBCAD.out.a _ rfl)
          have Q2 := no _ _ (QBCAD.out.b _ rfl)
          have Q3 := no _ _ (QBCAD.out.d _ rfl)
          have B5 : Below w.heap.size w w5 := Mq.under B0.out (QBCAD.out.mq.trans M5.out) fun k e => by have := HS.out; omega
          have LD := run_loadVar_mid (P := Tryz.prog) w5 s 0 178 [.int .i64 0, .slice ga 16 gk, .int .i64 0, .slice ha 11 hk', .bool false, .bool false, .bool false, .int .i64 0, .slice ia n ik, .slice none 0 0] _ R5.out Tryz.underlying178 rfl (by kernel_rfl)
          go_wp2_with fail
          refine bodyPost_ret (v := .agg #[.int .i64 0, .slice ga 16 gk, .int .i64 0, .slice ha 11 hk', .bool false, .bool false, .bool false, .int .i64 0, .slice ia n ik, .slice none 0 0]) (by simp [results, Tryz.results128, asAddr]; rw [LD]) rfl ?_
          rw [HE1.out, HE2.out]
          exact ⟨_, _, _, _, rfl, ⟨Q1.mono B0.out.size, Q2.mono B0.out.size, Q3.mono B0.out.size, Nums.nil _ _⟩, ⟨AB.out, AD.out, Apt.swap (.inl rfl), BD.out, Apt.swap (.inl rfl), Apt.swap (.inl rfl)⟩, B5⟩
        exact AllReadyH.nil
      refine AllReadyH.cons rfl (fun K hK => ?_) ?_
      · obtain ⟨gC, hgC⟩ := HvC
        subst hgC
        refine step_app8 rfl (.tmp 13) (.tmp 14) rfl W.heap.size gC rfl (QBC.out.c rfl _ rfl) a n k zs rfl HL.out (HX.out _ QBC.out.mq).1 (HX.out _ QBC.out.mq).2 (by have := H40.out; omega) QBC.out.mq.size ?_
        intro vD wBCD n1 g1 ho
        have QBCD : Hid (Nx W wBCD s zs none (some vB) (some (.slice (some ⟨gC, 0, none⟩) 0 0)) (some vD)) := QBC.out.app LT.out n1 g1 ho
        clear n1 g1 ho
        refine hK.out _ _ trivial (fun _ => ?_)
        clear hK K
        change wpAnyH _ _ _ _ _ _ _ (Act.put _ (some 15) _) _
        simp only [Act.put, zT, zZ, zS]
        refine wpAnyH_ready (rs := [0]) (by kernel_rfl) (by simp) ?_
        refine AllReadyH.cons rfl (fun K hK => ?_) ?_
        · refine step_make rfl (.const (.int .i64 16)) (.const (.int .i64 16)) rfl 16 rfl rfl (by decide) ?_
          intro vA wBCDA n1 b1
          have QBCDA : Hid (Nx W wBCDA s zs (some vA) (some vB) (some (.slice (some ⟨gC, 0, none⟩) 0 0)) (some vD)) := QBCD.out.mkA LT.out n1 b1
          clear n1 b1
          refine hK.out _ _ trivial (fun _ => ?_)
          clear hK K
          change wpAnyH _ _ _ _ _ _ _ (Act.put _ (some 11) _) _
          simp only [Act.put, zT, zZ, zS]
          obtain ⟨ga, gk, hga, _⟩ := (QBCDA.out.a _ rfl).shape
          obtain ⟨ha, hk', hha, _⟩ := (QBCDA.out.b _ rfl).shape
          obtain ⟨ia, ik, hia, _⟩ := (QBCDA.out.d _ rfl).shape
          rw [List.length_replicate] at hga hha
          have AB : Hid (Apt _ _) := QBCDA.out.ab _ _ rfl rfl
          have AD : Hid (Apt _ _) := QBCDA.out.ad _ _ rfl rfl
          have BD : Hid (Apt _ _) := QBCDA.out.bd _ _ rfl rfl
          rw [HL.out] at hia
          subst hga hha hia
          refine wpTk (i := 5) (v := .agg #[.slice ga 16 gk, .int .i64 0, .slice ha 11 hk', .bool false, .bool false, .bool false, .int .i64 0, .slice ia n ik, .slice none 0 0]) rfl (Or.inl ⟨by rfl, fun w' _ => by go_simp⟩) trivial ?_
          change wpAnyH _ _ _ _ _ _ _ (Act.put _ (some 16) _) _
          simp only [Act.put, zT, zZ, zS]
          refine wpTk (i := 6) (v := .agg #[.int .i64 0, .slice ga 16 gk, .int .i64 0, .slice ha 11 hk', .bool false, .bool false, .bool false, .int .i64 0, .slice ia n ik, .slice none 0 0]) rfl (Or.inl ⟨by rfl, fun w' _ => by go_simp⟩) trivial ?_
          change wpAnyH _ _ _ _ _ _ _ (Act.put _ (some 17) _) _
          simp only [Act.put, zT, zZ, zS]
          refine zR 7 rfl fun K hK => ?_
          rw [if_pos (by rfl)]
          refine wp_store_mid 178 (.tmp 2) (.tmp 17) rfl s 0 #[.int .i64 0, .slice ga 16 gk, .int .i64 0, .slice ha 11 hk', .bool false, .bool false, .bool false, .int .i64 0, .slice ia n ik, .slice none 0 0] rfl rfl QBCDA.out.th (by kernel_rfl) (by simp [Value.oneCell']) ?_
          change K (Act.put _ none undef) (World.setCells wBCDA s 0 [.int .i64 0, .slice ga 16 gk, .int .i64 0, .slice ha 11 hk', .bool false, .bool false, .bool false, .int .i64 0, .slice ia n ik, .slice none 0 0])
          simp only [Act.put]
          have R5 : Hid ((wBCDA.setCells s 0 [.int .i64 0, .slice ga 16 gk, .int .i64 0, .slice ha 11 hk', .bool false, .bool false, .bool false, .int .i64 0, .slice ia n ik, .slice none 0 0]).rangeAt s 0 [.int .i64 0, .slice ga 16 gk, .int .i64 0, .slice ha 11 hk', .bool false, .bool false, .bool false, .int .i64 0, .slice ia n ik, .slice none 0 0]) := World.rangeAt_setCells_same _ _ _ _ QBCDA.out.th
          have M5 : Hid (Mq (fun k => k = s) wBCDA (wBCDA.setCells s 0 [.int .i64 0, .slice ga 16 gk, .int .i64 0, .slice ha 11 hk', .bool false, .bool false, .bool false, .int .i64 0, .slice ia n ik, .slice none 0 0])) := mq_cells s _ wBCDA 0
          generalize wBCDA.setCells s 0 [.int .i64 0, .slice ga 16 gk, .int .i64 0, .slice ha 11 hk', .bool false, .bool false, .bool false, .int .i64 0, .slice ia n ik, .slice none 0 0] = w5 at *
          refine hK.out _ _ trivial (fun _ => ?_)
          clear hK K
          refine wpAnyH_done (by kernel_rfl) ?_ _
          have no : ∀ (v : Value) (ys : List Int), Nums wBCDA W.heap.size v ys → Nums w5 W.heap.size v ys := fun v ys h => M5.out.nums h fun k e f => by have := (h.lt k e).1; have := LT.out; omega
          have Q1 := no _ _ (QBCDA.out.a _ rfl)
          have Q2 := no _ _ (QBCDA.out.b _ rfl)
          have Q3 := no _ _ (QBCDA.out.d _ rfl)
          have B5 : Below w.heap.size w w5 := Mq.under B0.out (QBCDA.out.mq.trans M5.out) fun k e => by have := HS.out; omega
          have LD := run_loadVar_mid (P := Tryz.prog) w5 s 0 178 [.int .i64 0, .slice ga 16 gk, .int .i64 0, .slice ha 11 hk', .bool false, .bool false, .bool false, .int .i64 0, .slice ia n ik, .slice none 0 0] _ R5.out Tryz.underlying178 rfl (by kernel_rfl)
          go_wp2_with fail
          refine bodyPost_ret (v := .agg #[.int .i64 0, .slice ga 16 gk, .int .i64 0, .slice ha 11 hk', .bool false, .bool false, .bool false, .int .i64 0, .slice ia n ik, .slice none 0 0]) (by simp [results, Tryz.results128, asAddr]; rw [LD]) rfl ?_
          rw [HE1.out, HE2.out]
          exact ⟨_, _, _, _, rfl, ⟨Q1.mono B0.out.size, Q2.mono B0.out.size, Q3.mono B0.out.size, Nums.nil _ _⟩, ⟨AB.out, AD.out, Apt.swap (.inl rfl), BD.out, Apt.swap (.inl rfl), Apt.swap (.inl rfl)⟩, B5⟩
        exact AllReadyH.nil
      exact AllReadyH.nil
    exact AllReadyH.nil
  refine AllReadyH.cons rfl (fun K hK => ?_) ?_
  · rw [if_pos (by rfl)]
    go_simp
    have QC : Hid (Nx W (W.drew.alloc (.cells #[] 2)) s zs none none (some (.slice (some ⟨W.drew.heap.size, 0, none⟩) 0 0)) none) := Q0.out.mkC LT.out (nums_none _ _ (Nat.le_refl _)) (al (Below.refl _ _) _)
    have QC : Hid (Nx W ((W.alloc (.cells #[] 2)).drew) s zs none none (some (Value.slice (some ⟨W.heap.size, 0, none⟩) 0 0)) none) := QC.out
    obtain ⟨vC, hvC⟩ : ∃ v, Value.slice (some ⟨W.heap.size, 0, none⟩) 0 0 = v := ⟨_, rfl⟩
    obtain ⟨wC, hwC⟩ : ∃ w', (W.alloc (.cells #[] 2)).drew = w' := ⟨_, rfl⟩
    have HvC : ∃ g, vC = Value.slice (some ⟨g, 0, none⟩) 0 0 := ⟨_, hvC.symm⟩
    rw [hvC, hwC] at QC
    rw [hvC, hwC]
    clear hvC hwC
    refine hK.out _ _ trivial (fun _ => ?_)
    clear hK K
    refine wpAnyH_ready (rs := [0, 1, 4]) (by kernel_rfl) (by simp) ?_
    refine AllReadyH.cons rfl (fun K hK => ?_) ?_
    · refine step_make rfl (.const (.int .i64 16)) (.const (.int .i64 16)) rfl 16 rfl rfl (by decide) ?_
      intro vA wCA n1 b1
      have QCA : Hid (Nx W wCA s zs (some vA) none (some vC) none) := QC.out.mkA LT.out n1 b1
      clear n1 b1
      refine hK.out _ _ trivial (fun _ => ?_)
      clear hK K
      change wpAnyH _ _ _ _ _ _ _ (Act.put _ (some 11) _) _
      simp only [Act.put, zT, zZ, zS]
      refine wpAnyH_ready (rs := [1, 4]) (by kernel_rfl) (by simp) ?_
      refine AllReadyH.cons rfl (fun K hK => ?_) ?_
      · refine step_make rfl (.const (.int .i64 11)) (.const (.int .i64 11)) rfl 11 rfl rfl (by decide) ?_
        intro vB wCAB n1 b1
        have QCAB : Hid (Nx W wCAB s zs (some vA) (some vB) (some vC) none) := QCA.out.mkB LT.out n1 b1
        clear n1 b1
        refine hK.out _ _ trivial (fun _ => ?_)
        clear hK K
        change wpAnyH _ _ _ _ _ _ _ (Act.put _ (some 12) _) _
        simp only [Act.put, zT, zZ, zS]
        refine wpAnyH_ready (rs := [4]) (by kernel_rfl) (by simp) ?_
        refine AllReadyH.cons rfl (fun K hK => ?_) ?_
        · obtain ⟨gC, hgC⟩ := HvC
          subst hgC
          refine step_app8 rfl (.tmp 13) (.tmp 14) rfl W.heap.size gC rfl (QCAB.out.c rfl _ rfl) a n k zs rfl HL.out (HX.out _ QCAB.out.mq).1 (HX.out _ QCAB.out.mq).2 (by have := H40.out; omega) QCAB.out.mq.size ?_
          intro vD wCABD n1 g1 ho
          have QCABD : Hid (Nx W wCABD s zs (some vA) (some vB) (some (.slice (some ⟨gC, 0, none⟩) 0 0)) (some vD)) := QCAB.out.app LT.out n1 g1 ho
          clear n1 g1 ho
          refine hK.out _ _ trivial (fun _ => ?_)
          clear hK K
          change wpAnyH _ _ _ _ _ _ _ (Act.put _ (some 15) _) _
          simp only [Act.put, zT, zZ, zS]
          obtain ⟨ga, gk, hga, _⟩ := (QCABD.out.a _ rfl).shape
          obtain ⟨ha, hk', hha, _⟩ := (QCABD.out.b _ rfl).shape
          obtain ⟨ia, ik, hia, _⟩ := (QCABD.out.d _ rfl).shape
          rw [List.length_replicate] at hga hha
          have AB : Hid (Apt _ _) := QCABD.out.ab _ _ rfl rfl
          have AD : Hid (Apt _ _) := QCABD.out.ad _ _ rfl rfl
          have BD : Hid (Apt _ _) := QCABD.out.bd _ _ rfl rfl
          rw [HL.out] at hia
          subst hga hha hia
          refine wpTk (i := 5) (v := .agg #[.slice ga 16 gk, .int .i64 0, .slice ha 11 hk', .bool false, .bool false, .bool false, .int .i64 0, .slice ia n ik, .slice none 0 0]) rfl (Or.inl ⟨by rfl, fun w' _ => by go_simp⟩) trivial ?_
          change wpAnyH _ _ _ _ _ _ _ (Act.put _ (some 16) _) _
          simp only [Act.put, zT, zZ, zS]
          refine wpTk (i := 6) (v := .agg #[.int .i64 0, .slice ga 16 gk, .int .i64 0, .slice ha 11 hk', .bool false, .bool false, .bool false, .int .i64 0, .slice ia n ik, .slice none 0 0]) rfl (Or.inl ⟨by rfl, fun w' _ => by go_simp⟩) trivial ?_
          change wpAnyH _ _ _ _ _ _ _ (Act.put _ (some 17) _) _
          simp only [Act.put, zT, zZ, zS]
          refine zR 7 rfl fun K hK => ?_
          rw [if_pos (by rfl)]
          refine wp_store_mid 178 (.tmp 2) (.tmp 17) rfl s 0 #[.int .i64 0, .slice ga 16 gk, .int .i64 0, .slice ha 11 hk', .bool false, .bool false, .bool false, .int .i64 0, .slice ia n ik, .slice none 0 0] rfl rfl QCABD.out.th (by kernel_rfl) (by simp [Value.oneCell']) ?_
          change K (Act.put _ none undef) (World.setCells wCABD s 0 [.int .i64 0, .slice ga 16 gk, .int .i64 0, .slice ha 11 hk', .bool false, .bool false, .bool false, .int .i64 0, .slice ia n ik, .slice none 0 0])
          simp only [Act.put]
          have R5 : Hid ((wCABD.setCells s 0 [.int .i64 0, .slice ga 16 gk, .int .i64 0, .slice ha 11 hk', .bool false, .bool false, .bool false, .int .i64 0, .slice ia n ik, .slice none 0 0]).rangeAt s 0 [.int .i64 0, .slice ga 16 gk, .int .i64 0, .slice ha 11 hk', .bool false, .bool false, .bool false, .int .i64 0, .slice ia n ik, .slice none 0 0]) := World.rangeAt_setCells_same _ _ _ _ QCABD.out.th
          have M5 : Hid (Mq (fun k => k = s) wCABD (wCABD.setCells s 0 [.int .i64 0, .slice ga 16 gk, .int .i64 0, .slice ha 11 hk', .bool false, .bool false, .bool false, .int .i64 0, .slice ia n ik, .slice none 0 0])) := mq_cells s _ wCABD 0
          generalize wCABD.setCells s 0 [.int .i64 0, .slice ga 16 gk, .int .i64 0, .slice ha 11 hk', .bool false, .bool false, .bool false, .int .i64 0, .slice ia n ik, .slice none 0 0] = w5 at *
          refine hK.out _ _ trivial (fun _ => ?_)
          clear hK K
          refine wpAnyH_done (by kernel_rfl) ?_ _
          have no : ∀ (v : Value) (ys : List Int), Nums wCABD W.heap.size v ys → Nums w5 W.heap.size v ys := fun v ys h => M5.out.nums h fun k e f => by have := (h.lt k e).1; have := LT.out; omega
          have Q1 := no _ _ (QCABD.out.a _ rfl)
          have Q2 := no _ _ (QCABD.out.b _ rfl)
          have Q3 := no _ _ (QCABD.out.d _ rfl)
          have B5 : Below w.heap.size w w5 := Mq.under B0.out (QCABD.out.mq.trans M5.out) fun k e => by have := HS.out; omega
          have LD := run_loadVar_mid (P := Tryz.prog) w5 s 0 178 [.int .i64 0, .slice ga 16 gk, .int .i64 0, .slice ha 11 hk', .bool false, .bool false, .bool false, .int .i64 0, .slice ia n ik, .slice none 0 0] _ R5.out Tryz.underlying178 rfl (by kernel_rfl)
          go_wp2_with fail
          refine bodyPost_ret (v := .agg #[.int .i64 0, .slice ga 16 gk, .int .i64 0, .slice ha 11 hk', .bool false, .bool false, .bool false, .int .i64 0, .slice ia n ik, .slice none 0 0]) (by simp [results, Tryz.results128, asAddr]; rw [LD]) rfl ?_
          rw [HE1.out, HE2.out]
          exact ⟨_, _, _, _, rfl, ⟨Q1.mono B0.out.size, Q2.mono B0.out.size, Q3.mono B0.out.size, Nums.nil _ _⟩, ⟨AB.out, AD.out, Apt.swap (.inl rfl), BD.out, Apt.swap (.inl rfl), Apt.swap (.inl rfl)⟩, B5⟩
        exact AllReadyH.nil
      refine AllReadyH.cons rfl (fun K hK => ?_) ?_
      · obtain ⟨gC, hgC⟩ := HvC
        subst hgC
        refine step_app8 rfl (.tmp 13) (.tmp 14) rfl W.heap.size gC rfl (QCA.out.c rfl _ rfl) a n k zs rfl HL.out (HX.out _ QCA.out.mq).1 (HX.out _ QCA.out.mq).2 (by have := H40.out; omega) QCA.out.mq.size ?_
        intro vD wCAD n1 g1 ho
        have QCAD : Hid (Nx W wCAD s zs (some vA) none (some (.slice (some ⟨gC, 0, none⟩) 0 0)) (some vD)) := QCA.out.app LT.out n1 g1 ho
        clear n1 g1 ho
        refine hK.out _ _ trivial (fun _ => ?_)
        clear hK K
        change wpAnyH _ _ _ _ _ _ _ (Act.put _ (some 15) _) _
        simp only [Act.put, zT, zZ, zS]
        refine wpAnyH_ready (rs := [1]) (by kernel_rfl) (by simp) ?_
        refine AllReadyH.cons rfl (fun K hK => ?_) ?_
        · refine step_make rfl (.const (.int .i64 11)) (.const (.int .i64 11)) rfl 11 rfl rfl (by decide) ?_
          intro vB wCADB n1 b1
          have QCADB : Hid (Nx W wCADB s zs (some vA) (some vB) (some (.slice (some ⟨gC, 0, none⟩) 0 0)) (some vD)) := QCAD.out.mkB LT.out n1 b1
          clear n1 b1
          refine hK.out _ _ trivial (fun _ => ?_)
          clear hK K
          change wpAnyH _ _ _ _ _ _ _ (Act.put _ (some 12) _) _
          simp only [Act.put, zT, zZ, zS]
          obtain ⟨ga, gk, hga, _⟩ := (QCADB.out.a _ rfl).shape
          obtain ⟨ha, hk', hha, _⟩ := (QCADB.out.b _ rfl).shape
          obtain ⟨ia, ik, hia, _⟩ := (QCADB.out.d _ rfl).shape
          rw [List.length_replicate] at hga hha
          have AB : Hid (Apt _ _) := QCADB.out.ab _ _ rfl rfl
          have AD : Hid (Apt _ _) := QCADB.out.ad _ _ rfl rfl
          have BD : Hid (Apt _ _) := QCADB.out.bd _ _ rfl rfl
          rw [HL.out] at hia
          subst hga hha hia
          refine wpTk (i := 5) (v := .agg #[.slice ga 16 gk, .int .i64 0, .slice ha 11 hk', .bool false, .bool false, .bool false, .int .i64 0, .slice ia n ik, .slice none 0 0]) rfl (Or.inl ⟨by rfl, fun w' _ => by go_simp⟩) trivial ?_
          change wpAnyH _ _ _ _ _ _ _ (Act.put _ (some 16) _) _
          simp only [Act.put, zT, zZ, zS]
          refine wpTk (i := 6) (v := .agg #[.int .i64 0, .slice ga 16 gk, .int .i64 0, .slice ha 11 hk', .bool false, .bool false, .bool false, .int .i64 0, .slice ia n ik, .slice none 0 0]) rfl (Or.inl ⟨by rfl, fun w' _ => by go_simp⟩) trivial ?_
          change wpAnyH _ _ _ _ _ _ _ (Act.put _ (some 17) _) _
          simp only [Act.put, zT, zZ, zS]
          refine zR 7 rfl fun K hK => ?_
          rw [if_pos (by rfl)]
          refine wp_store_mid 178 (.tmp 2) (.tmp 17) rfl s 0 #[.int .i64 0, .slice ga 16 gk, .int .i64 0, .slice ha 11 hk', .bool false, .bool false, .bool false, .int .i64 0, .slice ia n ik, .slice none 0 0] rfl rfl QCADB.out.th (by kernel_rfl) (by simp [Value.oneCell']) ?_
          change K (Act.put _ none undef) (World.setCells wCADB s 0 [.int .i64 0, .slice ga 16 gk, .int .i64 0, .slice ha 11 hk', .bool false, .bool false, .bool false, .int .i64 0, .slice ia n ik, .slice none 0 0])
          simp only [Act.put]
          have R5 : Hid ((wCADB.setCells s 0 [.int .i64 0, .slice ga 16 gk, .int .i64 0, .slice ha 11 hk', .bool false, .bool false, .bool false, .int .i64 0, .slice ia n ik, .slice none 0 0]).rangeAt s 0 [.int .i64 0, .slice ga 16 gk, .int .i64 0, .slice ha 11 hk', .bool false, .bool false, .bool false, .int .i64 0, .slice ia n ik, .slice none 0 0]) := World.rangeAt_setCells_same _ _ _ _ QCADB.out.th
          have M5 : Hid (Mq (fun k => k = s) wCADB (wCADB.setCells s 0 [.int .i64 0, .slice ga 16 gk, .int .i64 0, .slice ha 11 hk', .bool false, .bool false, .bool false, .int .i64 0, .slice ia n ik, .slice none 0 0])) := mq_cells s _ wCADB 0
          generalize wCADB.setCells s 0 [.int .i64 0, .slice ga 16 gk, .int .i64 0, .slice ha 11 hk', .bool false, .bool false, .bool false, .int .i64 0, .slice ia n ik, .slice none 0 0] = w5 at *
          refine hK.out _ _ trivial (fun _ => ?_)
          clear hK K
          refine wpAnyH_done (by kernel_rfl) ?_ _
          have no : ∀ (v : Value) (ys : List Int), Nums wCADB W.heap.size v ys → Nums w5 W.heap.size v ys := fun v ys h => M5.out.nums h fun k e f => by have := (h.lt k e).1; have := LT.out; omega
          have Q1 := no _ _ (QCADB.out.a _ rfl)
          have Q2 := no _ _ (QCADB.out.b _ rfl)
          have Q3 := no _ _ (QCADB.out.d _ rfl)
          have B5 : Below w.heap.size w w5 := Mq.under B0.out (QCADB.out.mq.trans M5.out) fun k e => by have := HS.out; omega
          have LD := run_loadVar_mid (P := Tryz.prog) w5 s 0 178 [.int .i64 0, .slice ga 16 gk, .int .i64 0, .slice ha 11 hk', .bool false, .bool false, .bool false, .int .i64 0, .slice ia n ik, .slice none 0 0] _ R5.out Tryz.underlying178 rfl (by kernel_rfl)
          go_wp2_with fail
          refine bodyPost_ret (v := .agg #[.int .i64 0, .slice ga 16 gk, .int .i64 0, .slice ha 11 hk', .bool false, .bool false, .bool false, .int .i64 0, .slice ia n ik, .slice none 0 0]) (by simp [results, Tryz.results128, asAddr]; rw [LD]) rfl ?_
          rw [HE1.out, HE2.out]
          exact ⟨_, _, _, _, rfl, ⟨Q1.mono B0.out.size, Q2.mono B0.out.size, Q3.mono B0.out.size, Nums.nil _ _⟩, ⟨AB.out, AD.out, Apt.swap (.inl rfl), BD.out, Apt.swap (.inl rfl), Apt.swap (.inl rfl)⟩, B5⟩
        exact AllReadyH.nil
      exact AllReadyH.nil
    refine AllReadyH.cons rfl (fun K hK => ?_) ?_
    · refine step_make rfl (.const (.int .i64 11)) (.const (.int .i64 11)) rfl 11 rfl rfl (by decide) ?_
      intro vB wCB n1 b1
      have QCB : Hid (Nx W wCB s zs none (some vB) (some vC) none) := QC.out.mkB LT.out n1 b1
      clear n1 b1
      refine hK.out _ _ trivial (fun _ => ?_)
      clear hK K
      change wpAnyH _ _ _ _ _ _ _ (Act.put _ (some 12) _) _
      simp only [Act.put, zT, zZ, zS]
      refine wpAnyH_ready (rs := [0, 4]) (by kernel_rfl) (by simp) ?_
      refine AllReadyH.cons rfl (fun K hK => ?_) ?_
      · refine step_make rfl (.const (.int .i64 16)) (.const (.int .i64 16)) rfl 16 rfl rfl (by decide) ?_
        intro vA wCBA n1 b1
        have QCBA : Hid (Nx W wCBA s zs (some vA) (some vB) (some vC) none) := QCB.out.mkA LT.out n1 b1
        clear n1 b1
        refine hK.out _ _ trivial (fun _ => ?_)
        clear hK K
        change wpAnyH _ _ _ _ _ _ _ (Act.put _ (some 11) _) _
        simp only [Act.put, zT, zZ, zS]
        refine wpAnyH_ready (rs := [4]) (by kernel_rfl) (by simp) ?_
        refine AllReadyH.cons rfl (fun K hK => ?_) ?_
        · obtain ⟨gC, hgC⟩ := HvC
          subst hgC
          refine step_app8 rfl (.tmp 13) (.tmp 14) rfl W.heap.size gC rfl (QCBA.out.c rfl _ rfl) a n k zs rfl HL.out (HX.out _ QCBA.out.mq).1 (HX.out _ QCBA.out.mq).2 (by have := H40.out; omega) QCBA.out.mq.size ?_
          intro vD wCBAD n1 g1 ho
          have QCBAD : Hid (Nx W wCBAD s zs (some vA) (some vB) (some (.slice (some ⟨gC, 0, none⟩) 0 0)) (some vD)) := QCBA.out.app LT.out n1 g1 ho
          clear n1 g1 ho
          refine hK.out _ _ trivial (fun _ => ?_)
          clear hK K
          change wpAnyH _ _ _ _ _ _ _ (Act.put _ (some 15) _) _
          simp only [Act.put, zT, zZ, zS]
          obtain ⟨ga, gk, hga, _⟩ := (QCBAD.out.a _ rfl).shape
          obtain ⟨ha, hk', hha, _⟩ := (QCBAD.out.b _ rfl).shape
          obtain ⟨ia, ik, hia, _⟩ := (QCBAD.out.d _ rfl).shape
          rw [List.length_replicate] at hga hha
          have AB : Hid (Apt _ _) := QCBAD.out.ab _ _ rfl rfl
          have AD : Hid (Apt _ _) := QCBAD.out.ad _ _ rfl rfl
          have BD : Hid (Apt _ _) := QCBAD.out.bd _ _ rfl rfl
          rw [HL.out] at hia
          subst hga hha hia
          refine wpTk (i := 5) (v := .agg #[.slice ga 16 gk, .int .i64 0, .slice ha 11 hk', .bool false, .bool false, .bool false, .int .i64 0, .slice ia n ik, .slice none 0 0]) rfl (Or.inl ⟨by rfl, fun w' _ => by go_simp⟩) trivial ?_
          change wpAnyH _ _ _ _ _ _ _ (Act.put _ (some 16) _) _
          simp only [Act.put, zT, zZ, zS]
          refine wpTk (i := 6) (v := .agg #[.int .i64 0, .slice ga 16 gk, .int .i64 0, .slice ha 11 hk', .bool false, .bool false, .bool false, .int .i64 0, .slice ia n ik, .slice none 0 0]) rfl (Or.inl ⟨by rfl, fun w' _ => by go_simp⟩) trivial ?_
          change wpAnyH _ _ _ _ _ _ _ (Act.put _ (some 17) _) _
          simp only [Act.put, zT, zZ, zS]
          refine zR 7 rfl fun K hK => ?_
          rw [if_pos (by rfl)]
          refine wp_store_mid 178 (.tmp 2) (.tmp 17) rfl s 0 #[.int .i64 0, .slice ga 16 gk, .int .i64 0, .slice ha 11 hk', .bool false, .bool false, .bool false, .int .i64 0, .slice ia n ik, .slice none 0 0] rfl rfl QCBAD.out.th (by kernel_rfl) (by simp [Value.oneCell']) ?_
          change K (Act.put _ none undef) (World.setCells wCBAD s 0 [.int .i64 0, .slice ga 16 gk, .int .i64 0, .slice ha 11 hk', .bool false, .bool false, .bool false, .int .i64 0, .slice ia n ik, .slice none 0 0])
          simp only [Act.put]
          have R5 : Hid ((wCBAD.setCells s 0 [.int .i64 0, .slice ga 16 gk, .int .i64 0, .slice ha 11 hk', .bool false, .bool false, .bool false, .int .i64 0, .slice ia n ik, .slice none 0 0]).rangeAt s 0 [.int .i64 0, .slice ga 16 gk, .int .i64 0, .slice ha 11 hk', .bool false, .bool false, .bool false, .int .i64 0, .slice ia n ik, .slice none 0 0]) := World.rangeAt_setCells_same _ _ _ _ QCBAD.out.th
          have M5 : Hid (Mq (fun k => k = s) wCBAD (wCBAD.setCells s 0 [.int .i64 0, .slice ga 16 gk, .int .i64 0, .slice ha 11 hk', .bool false, .bool false, .bool false, .int .i64 0, .slice ia n ik, .slice none 0 0])) := mq_cells s _ wCBAD 0
          generalize wCBAD.setCells s 0 [.int .i64 0, .slice ga 16 gk, .int .i64 0, .slice ha 11 hk', .bool false, .bool false, .bool false, .int .i64 0, .slice ia n ik, .slice none 0 0] = w5 at *
          refine hK.out _ _ trivial (fun _ => ?_)
          clear hK K
          refine wpAnyH_done (by kernel_rfl) ?_ _
          have no : ∀ (v : Value) (ys : List Int), Nums wCBAD W.heap.size v ys → Nums w5 W.heap.size v ys := fun v ys h => M5.out.nums h fun k e f => by have := (h.lt k e).1; have := LT.out; omega
          have Q1 := no _ _ (QCBAD.out.a _ rfl)
          have Q2 := no _ _ (QCBAD.out.b _ rfl)
          have Q3 := no _ _ (QCBAD.out.d _ rfl)
          have B5 : Below w.heap.size w w5 := Mq.under B0.out (QCBAD.out.mq.trans M5.out) fun k e => by have := HS.out; omega
          have LD := run_loadVar_mid (P := Tryz.prog) w5 s 0 178 [.int .i64 0, .slice ga 16 gk, .int .i64 0, .slice ha 11 hk', .bool false, .bool false, .bool false, .int .i64 0, .slice ia n ik, .slice none 0 0] _ R5.out Tryz.underlying178 rfl (by kernel_rfl)
          go_wp2_with fail
          refine bodyPost_ret (v := .agg #[.int .i64 0, .slice ga 16 gk, .int .i64 0, .slice ha 11 hk', .bool false, .bool false, .bool false, .int .i64 0, .slice ia n ik, .slice none 0 0]) (by simp [results, Tryz.results128, asAddr]; rw [LD]) rfl ?_
          rw [HE1.out, HE2.out]
          exact ⟨_, _, _, _, rfl, ⟨Q1.mono B0.out.size, Q2.mono B0.out.size, Q3.mono B0.out.size, Nums.nil _ _⟩, ⟨AB.out, AD.out, Apt.swap (.inl rfl), BD.out, Apt.swap (.inl rfl), Apt.swap (.inl rfl)⟩, B5⟩
        exact AllReadyH.nil
      refine AllReadyH.cons rfl (fun K hK => ?_) ?_
      · obtain ⟨gC, hgC⟩ := HvC
        subst hgC
        refine step_app8 rfl (.tmp 13) (.tmp 14) rfl W.heap.size gC rfl (QCB.out.c rfl _ rfl) a n k zs rfl HL.out (HX.out _ QCB.out.mq).1 (HX.out _ QCB.out.mq).2 (by have := H40.out; omega) QCB.out.mq.size ?_
        intro vD wCBD n1 g1 ho
        have QCBD : Hid (Nx W wCBD s zs none (some vB) (some (.slice (some ⟨gC, 0, none⟩) 0 0)) (some vD)) := QCB.out.app LT.out n1 g1 ho
        clear n1 g1 ho
        refine hK.out _ _ trivial (fun _ => ?_)
        clear hK K
        change wpAnyH _ _ _ _ _ _ _ (Act.put _ (some 15) _) _
        simp only [Act.put, zT, zZ, zS]
        refine wpAnyH_ready (rs := [0]) (by kernel_rfl) (by simp) ?_
        refine AllReadyH.cons rfl (fun K hK => ?_) ?_
        · refine step_make rfl (.const (.int .i64 16)) (.const (.int .i64 16)) rfl 16 rfl rfl (by decide) ?_
          intro vA wCBDA n1 b1
          have QCBDA : Hid (Nx W wCBDA s zs (some vA) (some vB) (some (.slice (some ⟨gC, 0, none⟩) 0 0)) (some vD)) := QCBD.out.mkA LT.out n1 b1
          clear n1 b1
          refine hK.out _ _ trivial (fun _ => ?_)
          clear hK K
          change wpAnyH _ _ _ _ _ _ _ (Act.put _ (some 11) _) _
          simp only [Act.put, zT, zZ, zS]
          obtain ⟨ga, gk, hga, _⟩ := (QCBDA.out.a _ rfl).shape
          obtain ⟨ha, hk', hha, _⟩ := (QCBDA.out.b _ rfl).shape
          obtain ⟨ia, ik, hia, _⟩ := (QCBDA.out.d _ rfl).shape
          rw [List.length_replicate] at hga hha
          have AB : Hid (Apt _ _) := QCBDA.out.ab _ _ rfl rfl
          have AD : Hid (Apt _ _) := QCBDA.out.ad _ _ rfl rfl
          have BD : Hid (Apt _ _) := QCBDA.out.bd _ _ rfl rfl
          rw [HL.out] at hia
          subst hga hha hia
          refine wpTk (i := 5) (v := .agg #[.slice ga 16 gk, .int .i64 0, .slice ha 11 hk', .bool false, .bool false, .bool false, .int .i64 0, .slice ia n ik, .slice none 0 0]) rfl (Or.inl ⟨by rfl, fun w' _ => by go_simp⟩) trivial ?_
          change wpAnyH _ _ _ _ _ _ _ (Act.put _ (some 16) _) _
          simp only [Act.put, zT, zZ, zS]
          refine wpTk (i := 6) (v := .agg #[.int .i64 0, .slice ga 16 gk, .int .i64 0, .slice ha 11 hk', .bool false, .bool false, .bool false, .int .i64 0, .slice ia n ik, .slice none 0 0]) rfl (Or.inl ⟨by rfl, fun w' _ => by go_simp⟩) trivial ?_
          change wpAnyH _ _ _ _ _ _ _ (Act.put _ (some 17) _) _
          simp only [Act.put, zT, zZ, zS]
          refine zR 7 rfl fun K hK => ?_
          rw [if_pos (by rfl)]
          refine wp_store_mid 178 (.tmp 2) (.tmp 17) rfl s 0 #[.int .i64 0, .slice ga 16 gk, .int .i64 0, .slice ha 11 hk', .bool false, .bool false, .bool false, .int .i64 0, .slice ia n ik, .slice none 0 0] rfl rfl QCBDA.out.th (by kernel_rfl) (by simp [Value.oneCell']) ?_
          change K (Act.put _ none undef) (World.setCells wCBDA s 0 [.int .i64 0, .slice ga 16 gk, .int .i64 0, .slice ha 11 hk', .bool false, .bool false, .bool false, .int .i64 0, .slice ia n ik, .slice none 0 0])
          simp only [Act.put]
          have R5 : Hid ((wCBDA.setCells s 0 [.int .i64 0, .slice ga 16 gk, .int .i64 0, .slice ha 11 hk', .bool false, .bool false, .bool false, .int .i64 0, .slice ia n ik, .slice none 0 0]).rangeAt s 0 [.int .i64 0, .slice ga 16 gk, .int .i64 0, .slice ha 11 hk', .bool false, .bool false, .bool false, .int .i64 0, .slice ia n ik, .slice none 0 0]) := World.rangeAt_setCells_same _ _ _ _ QCBDA.out.th
          have M5 : Hid (Mq (fun k => k = s) wCBDA (wCBDA.setCells s 0 [.int .i64 0, .slice ga 16 gk, .int .i64 0, .slice ha 11 hk', .bool false, .bool false, .bool false, .int .i64 0, .slice ia n ik, .slice none 0 0])) := mq_cells s _ wCBDA 0
          generalize wCBDA.setCells s 0 [.int .i64 0, .slice ga 16 gk, .int .i64 0, .slice ha 11 hk', .bool false, .bool false, .bool false, .int .i64 0, .slice ia n ik, .slice none 0 0] = w5 at *
          refine hK.out _ _ trivial (fun _ => ?_)
          clear hK K
          refine wpAnyH_done (by kernel_rfl) ?_ _
          have no : ∀ (v : Value) (ys : List Int), Nums wCBDA W.heap.size v ys → Nums w5 W.heap.size v ys := fun v ys h => M5.out.nums h fun k e f => by have := (h.lt k e).1; have := LT.out; omega
          have Q1 := no _ _ (QCBDA.out.a _ rfl)
          have Q2 := no _ _ (QCBDA.out.b _ rfl)
          have Q3 := no _ _ (QCBDA.out.d _ rfl)
          have B5 : Below w.heap.size w w5 := Mq.under B0.out (QCBDA.out.mq.trans M5.out) fun k e => by have := HS.out; omega
          have LD := run_loadVar_mid (P := Tryz.prog) w5 s 0 178 [.int .i64 0, .slice ga 16 gk, .int .i64 0, .slice ha 11 hk', .bool false, .bool false, .bool false, .int .i64 0, .slice ia n ik, .slice none 0 0] _ R5.out Tryz.underlying178 rfl (by kernel_rfl)
          go_wp2_with fail
          refine bodyPost_ret (v := .agg #[.int .i64 0, .slice ga 16 gk, .int .i64 0, .slice ha 11 hk', .bool false, .bool false, .bool false, .int .i64 0, .slice ia n ik, .slice none 0 0]) (by simp [results, Tryz.results128, asAddr]; rw [LD]) rfl ?_
          rw [HE1.out, HE2.out]
          exact ⟨_, _, _, _, rfl, ⟨Q1.mono B0.out.size, Q2.mono B0.out.size, Q3.mono B0.out.size, Nums.nil _ _⟩, ⟨AB.out, AD.out, Apt.swap (.inl rfl), BD.out, Apt.swap (.inl rfl), Apt.swap (.inl rfl)⟩, B5⟩
        exact AllReadyH.nil
      exact AllReadyH.nil
    refine AllReadyH.cons rfl (fun K hK => ?_) ?_
    · obtain ⟨gC, hgC⟩ := HvC
      subst hgC
      refine step_app8 rfl (.tmp 13) (.tmp 14) rfl W.heap.size gC rfl (QC.out.c rfl _ rfl) a n k zs rfl HL.out (HX.out _ QC.out.mq).1 (HX.out _ QC.out.mq).2 (by have := H40.out; omega) QC.out.mq.size ?_
      intro vD wCD n1 g1 ho
      have QCD : Hid (Nx W wCD s zs none none (some (.slice (some ⟨gC, 0, none⟩) 0 0)) (some vD)) := QC.out.app LT.out n1 g1 ho
      clear n1 g1 ho
      refine hK.out _ _ trivial (fun _ => ?_)
      clear hK K
      change wpAnyH _ _ _ _ _ _ _ (Act.put _ (some 15) _) _
      simp only [Act.put, zT, zZ, zS]
      refine wpAnyH_ready (rs := [0, 1]) (by kernel_rfl) (by simp) ?_
      refine AllReadyH.cons rfl (fun K hK => ?_) ?_
      · refine step_make rfl (.const (.int .i64 16)) (.const (.int .i64 16)) rfl 16 rfl rfl (by decide) ?_
        intro vA wCDA n1 b1
        have QCDA : Hid (Nx W wCDA s zs (some vA) none (some (.slice (some ⟨gC, 0, none⟩) 0 0)) (some vD)) := QCD.out.mkA LT.out n1 b1
        clear n1 b1
        refine hK.out _ _ trivial (fun _ => ?_)
        clear hK K
        change wpAnyH _ _ _ _ _ _ _ (Act.put _ (some 11) _) _
        simp only [Act.put, zT, zZ, zS]
        refine wpAnyH_ready (rs := [1]) (by kernel_rfl) (by simp) ?_
        refine AllReadyH.cons rfl (fun K hK => ?_) ?_
        · refine step_make rfl (.const (.int .i64 11)) (.const (.int .i64 11)) rfl 11 rfl rfl (by decide) ?_
          intro vB wCDAB n1 b1
          have QCDAB : Hid (Nx W wCDAB s zs (some vA) (some vB) (some (.slice (some ⟨gC, 0, none⟩) 0 0)) (some vD)) := QCDA.out.mkB LT.out n1 b1
          clear n1 b1
          refine hK.out _ _ trivial (fun _ => ?_)
          clear hK K
          change wpAnyH _ _ _ _ _ _ _ (Act.put _ (some 12) _) _
          simp only [Act.put, zT, zZ, zS]
          obtain ⟨ga, gk, hga, _⟩ := (QCDAB.out.a _ rfl).shape
          obtain ⟨ha, hk', hha, _⟩ := (QCDAB.out.b _ rfl).shape
          obtain ⟨ia, ik, hia, _⟩ := (QCDAB.out.d _ rfl).shape
          rw [List.length_replicate] at hga hha
          have AB : Hid (Apt _ _) := QCDAB.out.ab _ _ rfl rfl
          have AD : Hid (Apt _ _) := QCDAB.out.ad _ _ rfl rfl
          have BD : Hid (Apt _ _) := QCDAB.out.bd _ _ rfl rfl
          rw [HL.out] at hia
          subst hga hha hia
          refine wpTk (i := 5) (v := .agg #[.slice ga 16 gk, .int .i64 0, .slice ha 11 hk', .bool false, .bool false, .bool false, .int .i64 0, .slice ia n ik, .slice none 0 0]) rfl (Or.inl ⟨by rfl, fun w' _ => by go_simp⟩) trivial ?_
          change wpAnyH _ _ _ _ _ _ _ (Act.put _ (some 16) _) _
          simp only [Act.put, zT, zZ, zS]
          refine wpTk (i := 6) (v := .agg #[.int .i64 0, .slice ga 16 gk, .int .i64 0, .slice ha 11 hk', .bool false, .bool false, .bool false, .int .i64 0, .slice ia n ik, .slice none 0 0]) rfl (Or.inl ⟨by rfl, fun w' _ => by go_simp⟩) trivial ?_
          change wpAnyH _ _ _ _ _ _ _ (Act.put _ (some 17) _) _
          simp only [Act.put, zT, zZ, zS]
          refine zR 7 rfl fun K hK => ?_
          rw [if_pos (by rfl)]
          refine wp_store_mid 178 (.tmp 2) (.tmp 17) rfl s 0 #[.int .i64 0, .slice ga 16 gk, .int .i64 0, .slice ha 11 hk', .bool false, .bool false, .bool false, .int .i64 0, .slice ia n ik, .slice none 0 0] rfl rfl QCDAB.out.th (by kernel_rfl) (by simp [Value.oneCell']) ?_
          change K (Act.put _ none undef) (World.setCells wCDAB s 0 [.int .i64 0, .slice ga 16 gk, .int .i64 0, .slice ha 11 hk', .bool false, .bool false, .bool false, .int .i64 0, .slice ia n ik, .slice none 0 0])
          simp only [Act.put]
          have R5 : Hid ((wCDAB.setCells s 0 [.int .i64 0, .slice ga 16 gk, .int .i64 0, .slice ha 11 hk', .bool false, .bool false, .bool false, .int .i64 0, .slice ia n ik, .slice none 0 0]).rangeAt s 0 [.int .i64 0, .slice ga 16 gk, .int .i64 0, .slice ha 11 hk', .bool false, .bool false, .bool false, .int .i64 0, .slice ia n ik, .slice none 0 0]) := World.rangeAt_setCells_same _ _ _ _ QCDAB.out.th
          have M5 : Hid (Mq (fun k => k = s) wCDAB (wCDAB.setCells s 0 [.int .i64 0, .slice ga 16 gk, .int .i64 0, .slice ha 11 hk', .bool false, .bool false, .bool false, .int .i64 0, .slice ia n ik, .slice none 0 0])) := mq_cells s _ wCDAB 0
          generalize wCDAB.setCells s 0 [.int .i64 0, .slice ga 16 gk, .int .i64 0, .slice ha 11 hk', .bool false, .bool false, .bool false, .int .i64 0, .slice ia n ik, .slice none 0 0] = w5 at *
          refine hK.out _ _ trivial (fun _ => ?_)
          clear hK K
          refine wpAnyH_done (by kernel_rfl) ?_ _
          have no : ∀ (v : Value) (ys : List Int), Nums wCDAB W.heap.size v ys → Nums w5 W.heap.size v ys := fun v ys h => M5.out.nums h fun k e f => by have := (h.lt k e).1; have := LT.out; omega
          have Q1 := no _ _ (QCDAB.out.a _ rfl)
          have Q2 := no _ _ (QCDAB.out.b _ rfl)
          have Q3 := no _ _ (QCDAB.out.d _ rfl)
          have B5 : Below w.heap.size w w5 := Mq.under B0.out (QCDAB.out.mq.trans M5.out) fun k e => by have := HS.out; omega
          have LD := run_loadVar_mid (P := Tryz.prog) w5 s 0 178 [.int .i64 0, .slice ga 16 gk, .int .i64 0, .slice ha 11 hk', .bool false, .bool false, .bool false, .int .i64 0, .slice ia n ik, .slice none 0 0] _ R5.out Tryz.underlying178 rfl (by kernel_rfl)
          go_wp2_with fail
          refine bodyPost_ret (v := .agg #[.int .i64 0, .slice ga 16 gk, .int .i64 0, .slice ha 11 hk', .bool false, .bool false, .bool false, .int .i64 0, .slice ia n ik, .slice none 0 0]) (by simp [results, Tryz.results128, asAddr]; rw [LD]) rfl ?_
          rw [HE1.out, HE2.out]
          exact ⟨_, _, _, _, rfl, ⟨Q1.mono B0.out.size, Q2.mono B0.out.size, Q3.mono B0.out.size, Nums.nil _ _⟩, ⟨AB.out, AD.out, Apt.swap (.inl rfl), BD.out, Apt.swap (.inl rfl), Apt.swap (.inl rfl)⟩, B5⟩
        exact AllReadyH.nil
      refine AllReadyH.cons rfl (fun K hK => ?_) ?_
      · refine step_make rfl (.const (.int .i64 11)) (.const (.int .i64 11)) rfl 11 rfl rfl (by decide) ?_
        intro vB wCDB n1 b1
        have QCDB : Hid (Nx W wCDB s zs none (some vB) (some (.slice (some ⟨gC, 0, none⟩) 0 0)) (some vD)) := QCD.out.mkB LT.out n1 b1
        clear n1 b1
        refine hK.out _ _ trivial (fun _ => ?_)
        clear hK K
        change wpAnyH _ _ _ _ _ _ _ (Act.put _ (some 12) _) _
        simp only [Act.put, zT, zZ, zS]
        refine wpAnyH_ready (rs := [0]) (by kernel_rfl) (by simp) ?_
        refine AllReadyH.cons rfl (fun K hK => ?_) ?_
        · refine step_make rfl (.const (.int .i64 16)) (.const (.int .i64 16)) rfl 16 rfl rfl (by decide) ?_
          intro vA wCDBA n1 b1
          have QCDBA : Hid (Nx W wCDBA s zs (some vA) (some vB) (some (.slice (some ⟨gC, 0, none⟩) 0 0)) (some vD)) := QCDB.out.mkA LT.out n1 b1
          clear n1 b1
          refine hK.out _ _ trivial (fun _ => ?_)
          clear hK K
          change wpAnyH _ _ _ _ _ _ _ (Act.put _ (some 11) _) _
          simp only [Act.put, zT, zZ, zS]
          obtain ⟨ga, gk, hga, _⟩ := (QCDBA.out.a _ rfl).shape
          obtain ⟨ha, hk', hha, _⟩ := (QCDBA.out.b _ rfl).shape
          obtain ⟨ia, ik, hia, _⟩ := (QCDBA.out.d _ rfl).shape
          rw [List.length_replicate] at hga hha
          have AB : Hid (Apt _ _) := QCDBA.out.ab _ _ rfl rfl
          have AD : Hid (Apt _ _) := QCDBA.out.ad _ _ rfl rfl
          have BD : Hid (Apt _ _) := QCDBA.out.bd _ _ rfl rfl
          rw [HL.out] at hia
          subst hga hha hia
          refine wpTk (i := 5) (v := .agg #[.slice ga 16 gk, .int .i64 0, .slice ha 11 hk', .bool false, .bool false, .bool false, .int .i64 0, .slice ia n ik, .slice none 0 0]) rfl (Or.inl ⟨by rfl, fun w' _ => by go_simp⟩) trivial ?_
          change wpAnyH _ _ _ _ _ _ _ (Act.put _ (some 16) _) _
          simp only [Act.put, zT, zZ, zS]
          refine wpTk (i := 6) (v := .agg #[.int .i64 0, .slice ga 16 gk, .int .i64 0, .slice ha 11 hk', .bool false, .bool false, .bool false, .int .i64 0, .slice ia n ik, .slice none 0 0]) rfl (Or.inl ⟨by rfl, fun w' _ => by go_simp⟩) trivial ?_
          change wpAnyH _ _ _ _ _ _ _ (Act.put _ (some 17) _) _
          simp only [Act.put, zT, zZ, zS]
          refine zR 7 rfl fun K hK => ?_
          rw [if_pos (by rfl)]
          refine wp_store_mid 178 (.tmp 2) (.tmp 17) rfl s 0 #[.int .i64 0, .slice ga 16 gk, .int .i64 0, .slice ha 11 hk', .bool false, .bool false, .bool false, .int .i64 0, .slice ia n ik, .slice none 0 0] rfl rfl QCDBA.out.th (by kernel_rfl) (by simp [Value.oneCell']) ?_
          change K (Act.put _ none undef) (World.setCells wCDBA s 0 [.int .i64 0, .slice ga 16 gk, .int .i64 0, .slice ha 11 hk', .bool false, .bool false, .bool false, .int .i64 0, .slice ia n ik, .slice none 0 0])
          simp only [Act.put]
          have R5 : Hid ((wCDBA.setCells s 0 [.int .i64 0, .slice ga 16 gk, .int .i64 0, .slice ha 11 hk', .bool false, .bool false, .bool false, .int .i64 0, .slice ia n ik, .slice none 0 0]).rangeAt s 0 [.int .i64 0, .slice ga 16 gk, .int .i64 0, .slice ha 11 hk', .bool false, .bool false, .bool false, .int .i64 0, .slice ia n ik, .slice none 0 0]) := World.rangeAt_setCells_same _ _ _ _ QCDBA.out.th
          have M5 : Hid (Mq (fun k => k = s) wCDBA (wCDBA.setCells s 0 [.int .i64 0, .slice ga 16 gk, .int .i64 0, .slice ha 11 hk', .bool false, .bool false, .bool false, .int .i64 0, .slice ia n ik, .slice none 0 0])) := mq_cells s _ wCDBA 0
          generalize wCDBA.setCells s 0 [.int .i64 0, .slice ga 16 gk, .int .i64 0, .slice ha 11 hk', .bool false, .bool false, .bool false, .int .i64 0, .slice ia n ik, .slice none 0 0] = w5 at *
          refine hK.out _ _ trivial (fun _ => ?_)
          clear hK K
          refine wpAnyH_done (by kernel_rfl) ?_ _
          have no : ∀ (v : Value) (ys : List Int), Nums wCDBA W.heap.size v ys → Nums w5 W.heap.size v ys := fun v ys h => M5.out.nums h fun k e f => by have := (h.lt k e).1; have := LT.out; omega
          have Q1 := no _ _ (QCDBA.out.a _ rfl)
          have Q2 := no _ _ (QCDBA.out.b _ rfl)
          have Q3 := no _ _ (QCDBA.out.d _ rfl)
          have B5 : Below w.heap.size w w5 := Mq.under B0.out (QCDBA.out.mq.trans M5.out) fun k e => by have := HS.out; omega
          have LD := run_loadVar_mid (P := Tryz.prog) w5 s 0 178 [.int .i64 0, .slice ga 16 gk, .int .i64 0, .slice ha 11 hk', .bool false, .bool false, .bool false, .int .i64 0, .slice ia n ik, .slice none 0 0] _ R5.out Tryz.underlying178 rfl (by kernel_rfl)
          go_wp2_with fail
          refine bodyPost_ret (v := .agg #[.int .i64 0, .slice ga 16 gk, .int .i64 0, .slice ha 11 hk', .bool false, .bool false, .bool false, .int .i64 0, .slice ia n ik, .slice none 0 0]) (by simp [results, Tryz.results128, asAddr]; rw [LD]) rfl ?_
          rw [HE1.out, HE2.out]
          exact ⟨_, _, _, _, rfl, ⟨Q1.mono B0.out.size, Q2.mono B0.out.size, Q3.mono B0.out.size, Nums.nil _ _⟩, ⟨AB.out, AD.out, Apt.swap (.inl rfl), BD.out, Apt.swap (.inl rfl), Apt.swap (.inl rfl)⟩, B5⟩
        exact AllReadyH.nil
      exact AllReadyH.nil
    exact AllReadyH.nil
  exact AllReadyH.nil
theorem src_put {w : World} {b k : Nat} {a : Option Addr} {len cap : Nat} {zs : List Int} (s : Src w b k a len cap zs) (p : Addr) (u : Value) (hp : b < p.block) : Src (w.setCell p u) b k a len cap zs := by
  have g := grown_set w p u
  have hn : ∀ x, x ≤ b → some x ≠ some p.block := fun x hx e => by have := Option.some.inj e; omega
  have hh := s.here
  refine ⟨cell_grown g s.code (hn b (Nat.le_refl _)), cell_grown g s.count (hn b (Nat.le_refl _)), ?_, ?_, s.away, Nat.lt_of_lt_of_le hh g.size⟩
  · rw [World.frozen?_of_block (w := w) (g.block b hh (hn b (Nat.le_refl _)))]; exact s.free
  · rcases s.row with h0 | ⟨x, rfl, h1, h2, h3, h4, h5⟩
    · exact .inl h0
    · refine .inr ⟨x, rfl, h1, h2, h3, fun i hi => cell_grown g (h4 i hi) ?_, h5⟩
      have hx := s.away x rfl (by omega)
      rw [src_block]
      exact hn _ (by omega)
theorem turn_put {b : Nat} {a w : World} (t : Turn b a w) (p : Addr) (u : Value) (hp : a.heap.size ≤ p.block) : Turn b a (w.setCell p u) :=
  ⟨t.os, t.tape, t.output, by have := t.size; simpa [World.setCell] using this, fun k hk hn => by rw [heap_setCell_other w p k u (by omega)]; exact t.block k hk hn⟩
theorem turn_mq {b : Nat} {w w' : World} (t : Turn b w w') : Mq (fun k => k = b) w w' := ⟨t.os, t.tape, t.output, t.size, fun k hk hn => t.block k hk hn⟩
structure Dh (w0 v : World) (b k : Nat) (a : Option Addr) (len cap : Nat) (zs : List Int) (R q : Nat) (r c i o : Value) (H : Ht) : Prop where
  src : Src v b k a len cap zs
  m : Hm v (R + 1) r c i o H
  ap : Ha r c i o
  var : Vb v q #[r, .int .i64 H.pc, c, .bool H.halted, .bool H.waiting, .bool H.rung, .int .i64 H.done, i, o] 26
  res : Vb v R #[.slice none 0 0, .int .i64 0, .slice none 0 0, .bool false, .bool false, .bool false, .int .i64 0, .slice none 0 0, .slice none 0 0] 26
  g : Turn b w0 v
  nq : ∀ x, Own4 r c i o x → x ≠ q
  hb : b < R
  hq : R < q
  hR : w0.heap.size ≤ R
  r16 : H.regs.length = 16
  c11 : H.csr.length = 11
theorem Dh.turn {w0 v v' : World} {b k k' : Nat} {a : Option Addr} {len cap : Nat} {zs : List Int} {R q : Nat} {r c i o : Value} {H : Ht} (h : Dh w0 v b k a len cap zs R q r c i o H) (t : Turn b v v') (s : Src v' b k' a len cap zs) : Dh w0 v' b k' a len cap zs R q r c i o H :=
  ⟨s, (turn_mq t).hm h.m (fun x e f => by have := (h.m.own x e).1; have := h.hb; omega), h.ap, (turn_mq t).vb h.var (fun e => by have := h.hb; have := h.hq; omega), (turn_mq t).vb h.res (fun e => by have := h.hb; omega), h.g.trans t, h.nq, h.hb, h.hq, h.hR, h.r16, h.c11⟩
theorem Dh.fld {w0 v : World} {b k : Nat} {a : Option Addr} {len cap : Nat} {zs : List Int} {R q : Nat} {r c i o : Value} {H : Ht} (h : Dh w0 v b k a len cap zs R q r c i o H) (j : Nat) (u : Value) (H' : Ht)
    (hr : H'.regs = H.regs) (hc : H'.csr = H.csr) (hi : H'.inn = H.inn) (ho : H'.out = H.out) (hv : Vb (v.setCell ⟨q, j, none⟩ u) q #[r, .int .i64 H'.pc, c, .bool H'.halted, .bool H'.waiting, .bool H'.rung, .int .i64 H'.done, i, o] 26) : Dh w0 (v.setCell ⟨q, j, none⟩ u) b k a len cap zs R q r c i o H' := by
  have hb := h.hb; have hq := h.hq; have hR := h.hR
  refine ⟨src_put h.src _ _ (by show b < q; omega), ⟨?_, ?_, ?_, ?_⟩, h.ap, hv, h.res.put _ _ (by show R ≠ q; omega), turn_put h.g _ _ (by show w0.heap.size ≤ q; omega), h.nq, h.hb, h.hq, h.hR, by rw [hr]; exact h.r16, by rw [hc]; exact h.c11⟩
  · rw [hr]; exact h.m.r.put _ _ (fun e => h.nq q (.inl e) rfl)
  · rw [hc]; exact h.m.c.put _ _ (fun e => h.nq q (.inr (.inl e)) rfl)
  · rw [hi]; exact h.m.i.put _ _ (fun e => h.nq q (.inr (.inr (.inl e))) rfl)
  · rw [ho]; exact h.m.o.put _ _ (fun e => h.nq q (.inr (.inr (.inr e))) rfl)
theorem Dh.reg {w0 v : World} {b k : Nat} {a : Option Addr} {len cap : Nat} {zs : List Int} {R q y kr : Nat} {c i o : Value} {H : Ht} (h : Dh w0 v b k a len cap zs R q (.slice (some ⟨y, 0, none⟩) 16 kr) c i o H) (n : Nat) (u : Int) :
    Dh w0 (v.setCell ⟨y, n, none⟩ (.int .i64 u)) b k a len cap zs R q (.slice (some ⟨y, 0, none⟩) 16 kr) c i o { H with regs := H.regs.set n u } := by
  have hy := (h.m.r.lt y rfl).1
  have hb := h.hb; have hR := h.hR
  exact ⟨src_put h.src _ _ (by show b < y; omega), ⟨(h.m.r.store n u).1, h.m.c.put _ _ (apt_ne h.ap.rc rfl), h.m.i.put _ _ (apt_ne h.ap.ri rfl), h.m.o.put _ _ (apt_ne h.ap.ro rfl)⟩, h.ap, h.var.put _ _ (fun e => h.nq y (.inl rfl) e.symm), h.res.put _ _ (by show R ≠ y; omega), turn_put h.g _ _ (by show w0.heap.size ≤ y; omega), h.nq, h.hb, h.hq, h.hR, by simpa using h.r16, h.c11⟩
theorem Dh.sv {w0 v v' : World} {b k : Nat} {a : Option Addr} {len cap : Nat} {zs : List Int} {R q : Nat} {r c i o : Value} {H H' : Ht} (h : Dh w0 v b k a len cap zs R q r c i o H) (s : Sv v v' (R + 1) q r c i o H') (h1 : H'.regs.length = 16) (h2 : H'.csr.length = 11) : Dh w0 v' b k a len cap zs R q r c i o H' := by
  have hb := h.hb; have hq := h.hq; have hR := h.hR
  have no : ∀ x, x ≤ R → ¬ (x = q ∨ c.ownBlock = some x) := fun x hx e => by
    rcases e with e | e
    · omega
    · have := (h.m.c.lt x e).1; omega
  refine ⟨?_, s.m, h.ap, s.v, s.g.vb h.res (no R (Nat.le_refl _)), ⟨s.g.os.trans h.g.os, s.g.tape.trans h.g.tape, s.g.output.trans h.g.output, Nat.le_trans h.g.size s.g.size, fun x hx hn => (s.g.block x (Nat.lt_of_lt_of_le hx h.g.size) (no x (by omega))).trans (h.g.block x hx hn)⟩, h.nq, h.hb, h.hq, h.hR, h1, h2⟩
  have hh := h.src.here
  have hbk : ∀ x, x ≤ b → x < v.heap.size → v'.heap[x]? = v.heap[x]? := fun x hx hl => s.g.block x hl (no x (by omega))
  have hcell : ∀ (p : Addr) (u : Value), p.block ≤ b → v.cell? p = some u → v'.cell? p = some u := fun p u hp hu => by
    have hl := block_of_cell hu
    unfold World.cell? at *
    rw [hbk _ hp hl]
    exact hu
  refine ⟨hcell _ _ (Nat.le_refl _) h.src.code, hcell _ _ (Nat.le_refl _) h.src.count, ?_, ?_, h.src.away, Nat.lt_of_lt_of_le hh s.g.size⟩
  · rw [World.frozen?_of_block (w := v) (hbk b (Nat.le_refl _) hh)]; exact h.src.free
  · rcases h.src.row with h0 | ⟨x, rfl, q1, q2, q3, q4, q5⟩
    · exact .inl h0
    · refine .inr ⟨x, rfl, q1, q2, q3, fun j hj => hcell _ _ ?_ (q4 j hj), q5⟩
      have hx := h.src.away x rfl (by omega)
      rw [src_block]
      omega
theorem field_hart (x0 x1 x2 x3 x4 x5 x6 x7 x8 x9 : Value) (w : World) : (Instr.field 178 (.agg #[x0, x1, x2, x3, x4, x5, x6, x7, x8, x9]) 1).run Tryz.prog w = .ok (.agg #[x1, x2, x3, x4, x5, x6, x7, x8, x9]) w := by kernel_rfl
theorem newR_small {zs : List Int} (h : zs.length ≤ 40) (hw : zs.all isW = true) : newR zs = (0, newV zs) := by
  unfold newR
  rw [if_neg (by omega), hw]
  rfl
theorem Dh.newOut {w0 v v' : World} {b k : Nat} {a : Option Addr} {len cap : Nat} {zs : List Int} {R q : Nat} {r c i o o' : Value} {H : Ht} {ys : List Int} (h : Dh w0 v b k a len cap zs R q r c i o H) (n : Nums v' v.heap.size o' ys) (bl : Below v.heap.size v v') :
    Dh w0 (v'.setCell ⟨q, 8, none⟩ o') b k a len cap zs R q r c i o' { H with out := ys } := by
  have hb := h.hb; have hq := h.hq; have hR := h.hR
  have hql := h.var.lt
  have m := h.m.keep bl
  have nq : ∀ x, Own4 r c i o' x → x ≠ q := fun x e => by
    rcases e with e | e | e | e
    · exact h.nq x (.inl e)
    · exact h.nq x (.inr (.inl e))
    · exact h.nq x (.inr (.inr (.inl e)))
    · have := (n.lt x e).1; omega
  exact ⟨src_put (h.src.turn (Turn.of_below (b := v.heap.size) bl) (Nat.le_refl _)) _ _ (by show b < q; omega), ⟨m.r.put _ _ (fun e => nq q (.inl e) rfl), m.c.put _ _ (fun e => nq q (.inr (.inl e)) rfl), m.i.put _ _ (fun e => nq q (.inr (.inr (.inl e))) rfl), (n.mono (by omega)).put _ _ (fun e => nq q (.inr (.inr (.inr e))) rfl)⟩,
    ⟨h.ap.rc, h.ap.ri, h.m.r.apt n (Nat.le_refl _), h.ap.ci, h.m.c.apt n (Nat.le_refl _), h.m.i.apt n (Nat.le_refl _)⟩, (h.var.keep bl).set 8 _, (h.res.keep bl).put _ _ (by show R ≠ q; omega), turn_put (h.g.trans (Turn.of_below bl)) _ _ (by show w0.heap.size ≤ q; omega), nq, hb, hq, hR, h.r16, h.c11⟩
theorem src_mq {w w' : World} {b k R : Nat} {a : Option Addr} {len cap : Nat} {zs : List Int} (s : Src w b k a len cap zs) (m : Mq (fun x => x = R) w w') (hb : b < R) : Src w' b k a len cap zs := by
  have hh := s.here
  have hbk : ∀ x, x ≤ b → x < w.heap.size → w'.heap[x]? = w.heap[x]? := fun x hx hl => m.block x hl (by omega)
  have hcell : ∀ (p : Addr) (u : Value), p.block ≤ b → w.cell? p = some u → w'.cell? p = some u := fun p u hp hu => by
    have hl := block_of_cell hu
    unfold World.cell? at *
    rw [hbk _ hp hl]
    exact hu
  refine ⟨hcell _ _ (Nat.le_refl _) s.code, hcell _ _ (Nat.le_refl _) s.count, ?_, ?_, s.away, Nat.lt_of_lt_of_le hh m.size⟩
  · rw [World.frozen?_of_block (w := w) (hbk b (Nat.le_refl _) hh)]; exact s.free
  · rcases s.row with h0 | ⟨x, rfl, q1, q2, q3, q4, q5⟩
    · exact .inl h0
    · refine .inr ⟨x, rfl, q1, q2, q3, fun j hj => hcell _ _ ?_ (q4 j hj), q5⟩
      have hx := s.away x rfl (by omega)
      rw [src_block]
      omega
theorem three_at (w : World) (x y z : Int) (t : TypeId) : ∀ i, i < 3 → ∃ v : Int, (w.alloc (.cells #[.int .i64 x, .int .i64 y, .int .i64 z] t)).cell? ⟨w.heap.size, i, none⟩ = some (.int .i64 v) ∧ True := by
  intro i hi
  have e : i = 0 ∨ i = 1 ∨ i = 2 := by omega
  rcases e with rfl | rfl | rfl
  · exact ⟨x, cell_new rfl, trivial⟩
  · exact ⟨y, cell_new rfl, trivial⟩
  · exact ⟨z, cell_new rfl, trivial⟩
set_option maxRecDepth 20000 in
set_option maxHeartbeats 16000000 in
theorem hart_any {w : World} {b k : Nat} {a : Option Addr} {len cap : Nat} {zs : List Int} (s : Src w b k a len cap zs) (hk : k ≤ 50000) :
    Calls Tryz.prog 91 #[.pointer (some ⟨b, 0, none⟩)] w fun e w' => ∃ r c i o H, e = .returned (.agg #[r, .int .i64 H.pc, c, .bool H.halted, .bool H.waiting, .bool H.rung, .int .i64 H.done, i, o]) ∧ Hm w' w.heap.size r c i o H ∧ Ha r c i o ∧ H.regs.length = 16 ∧ H.csr.length = 11 ∧ Turn b w w' ∧ ∃ k', k' ≤ k + 1000 ∧ Src w' b k' a len cap zs := by
  have HK : Hid (k ≤ 50000) := hk
  have S0 : Hid (Src w b k a len cap zs) := s
  obtain ⟨R, hR⟩ : ∃ R, w.heap.size = R := ⟨_, rfl⟩
  have HR : Hid (w.heap.size = R) := hR
  have BR : Hid (b < R) := by show _ < _; rw [← hR]; exact s.here
  generalize hW : (w.alloc (.cells #[.slice none 0 0, .int .i64 0, .slice none 0 0, .bool false, .bool false, .bool false, .int .i64 0, .slice none 0 0, .slice none 0 0] 26)).alloc (.cells #[.int .i64 7, .int .i64 8] 2) = W
  have z1 : R + 1 = (w.alloc (.cells #[.slice none 0 0, .int .i64 0, .slice none 0 0, .bool false, .bool false, .bool false, .int .i64 0, .slice none 0 0, .slice none 0 0] 26)).heap.size := by rw [← hR]; simp
  have VR : Hid (Vb W R #[.slice none 0 0, .int .i64 0, .slice none 0 0, .bool false, .bool false, .bool false, .int .i64 0, .slice none 0 0, .slice none 0 0] 26) := by show Vb _ _ _ _; rw [← hW, ← hR]; exact (Vb.new _ _ _).push _
  have VL : Hid (Vb W (R + 1) #[.int .i64 7, .int .i64 8] 2) := by show Vb _ _ _ _; rw [← hW, z1]; exact Vb.new _ _ _
  have SW : Hid (Src W b k a len cap zs) := by show Src _ _ _ _ _ _ _; rw [← hW]; exact (s.alloc _).alloc _
  have TW : Hid (Turn b w W) := by show Turn _ _ _; rw [← hW]; exact (Turn.alloc _ _ _).trans (Turn.alloc _ _ _)
  clear s z1
  go_enter Tryz.func91, Tryz.ntmps91
  go_wp2_with fail
  clear hW hR
  refine (next_any SW.out (by have := HK.out; omega) _).mono ?_
  rintro e w1 ⟨v, rfl, hv, -, t1, s1⟩
  obtain ⟨hv0, hv1⟩ := hv (by decide)
  obtain ⟨n, rfl⟩ := Int.eq_ofNat_of_zero_le hv0
  have hn : n ≤ 2 := by omega
  have S1 : Hid (Src w1 b (k + 1) a len cap zs) := s1
  have T1 : Hid (Turn b w w1) := TW.out.trans t1
  have VR1 : Hid (Vb w1 R #[.slice none 0 0, .int .i64 0, .slice none 0 0, .bool false, .bool false, .bool false, .int .i64 0, .slice none 0 0, .slice none 0 0] 26) := (turn_mq t1).vb VR.out (by have := BR.out; omega)
  have VL1 : Hid (Vb w1 (R + 1) #[.int .i64 7, .int .i64 8] 2) := (turn_mq t1).vb VL.out (by have := BR.out; omega)
  have NZ : Hid (∃ ys, Nums w1 (R + 1) (.slice (some ⟨R + 1, 0, none⟩) n 2) ys ∧ newR ys = (0, newV ys)) := by
    have e : n = 0 ∨ n = 1 ∨ n = 2 := by omega
    rcases e with rfl | rfl | rfl
    · exact ⟨[], ⟨rfl, .inr ⟨R + 1, 2, _, rfl, Nat.le_refl _, VL1.out, by decide, by decide, rfl, rfl⟩⟩, newR_small (by decide) (by decide)⟩
    · exact ⟨[7], ⟨rfl, .inr ⟨R + 1, 2, _, rfl, Nat.le_refl _, VL1.out, by decide, by decide, rfl, rfl⟩⟩, newR_small (by decide) (by decide)⟩
    · exact ⟨[7, 8], ⟨rfl, .inr ⟨R + 1, 2, _, rfl, Nat.le_refl _, VL1.out, by decide, by decide, rfl, rfl⟩⟩, newR_small (by decide) (by decide)⟩
  have hI2 : (n : Int) ≤ 2 := by omega
  clear hv t1 s1
  go_wp2_with fail
  obtain ⟨ys, NY, hnew⟩ := NZ.out
  refine (s_newHart8 _ ys _ _ NY).mono ?_
  rintro e w2 ⟨r, c, i, o, rfl, m2, A2, b2⟩
  rw [hnew] at m2 ⊢
  obtain ⟨H0, hH0⟩ : ∃ H, newV ys = H := ⟨_, rfl⟩
  have L0 : Hid (H0.regs.length = 16 ∧ H0.csr.length = 11) := by rw [← hH0]; exact ⟨rfl, rfl⟩
  simp only [hH0] at m2 ⊢
  obtain ⟨a0, k0, rfl, _, _, g0⟩ := m2.r.shape
  obtain ⟨a1, k1, rfl, _, _, g1⟩ := m2.c.shape
  obtain ⟨a2, k2, rfl, _⟩ := m2.i.shape
  obtain ⟨a3, k3, rfl, _⟩ := m2.o.shape
  obtain ⟨y0, rfl⟩ := g0 (by rw [L0.out.1]; decide)
  obtain ⟨y1, rfl⟩ := g1 (by rw [L0.out.2]; decide)
  rw [L0.out.1] at m2 A2 ⊢
  rw [L0.out.2] at m2 A2 ⊢
  generalize H0.inn.length = n2 at *
  generalize H0.out.length = n3 at *
  have fh : ∀ w', (Instr.field 178 (.agg #[.int .i64 0, .slice (some ⟨y0, 0, none⟩) 16 k0, .int .i64 H0.pc, .slice (some ⟨y1, 0, none⟩) 11 k1, .bool H0.halted, .bool H0.waiting, .bool H0.rung, .int .i64 H0.done, .slice a2 n2 k2, .slice a3 n3 k3]) 1).run Tryz.prog w' = .ok (.agg #[.slice (some ⟨y0, 0, none⟩) 16 k0, .int .i64 H0.pc, .slice (some ⟨y1, 0, none⟩) 11 k1, .bool H0.halted, .bool H0.waiting, .bool H0.rung, .int .i64 H0.done, .slice a2 n2 k2, .slice a3 n3 k3]) w' := fun w' => field_hart _ _ _ _ _ _ _ _ _ _ w'
  have SZ : Hid (R + 2 ≤ w1.heap.size) := by have := VL1.out.lt; show _ ≤ _; omega
  obtain ⟨q, hq⟩ : ∃ q, w2.heap.size = q := ⟨_, rfl⟩
  have D0 : Hid (Dh w (w2.alloc (.cells #[.slice (some ⟨y0, 0, none⟩) 16 k0, .int .i64 H0.pc, .slice (some ⟨y1, 0, none⟩) 11 k1, .bool H0.halted, .bool H0.waiting, .bool H0.rung, .int .i64 H0.done, .slice a2 n2 k2, .slice a3 n3 k3] 26)) b (k + 1) a len cap zs R q (.slice (some ⟨y0, 0, none⟩) 16 k0) (.slice (some ⟨y1, 0, none⟩) 11 k1) (.slice a2 n2 k2) (.slice a3 n3 k3) H0) := by
    have hRR := HR.out; have hBR := BR.out; have hSZ := SZ.out; have hb2 := b2.size
    refine ⟨((S1.out.turn (Turn.of_below (b := w1.heap.size) b2) (Nat.le_refl _)).alloc _), (m2.keep (al (Below.refl _ _) _)).mono (by omega), A2, by rw [← hq]; exact Vb.new _ _ _, (VR1.out.keep b2).push _, (T1.out.trans (Turn.of_below b2)).trans (Turn.alloc _ _ _), fun x e f => by have := (m2.own x e).2; omega, hBR, by omega, by omega, L0.out.1, L0.out.2⟩
  clear m2 A2 b2 hnew NY hH0 g0 g1
  go_wp2_with fail
  generalize w2.alloc (.cells #[.slice (some ⟨y0, 0, none⟩) 16 k0, .int .i64 H0.pc, .slice (some ⟨y1, 0, none⟩) 11 k1, .bool H0.halted, .bool H0.waiting, .bool H0.rung, .int .i64 H0.done, .slice a2 n2 k2, .slice a3 n3 k3] 26) = W2 at *
  clear hq fh
  go_loopw [4] (fun kk wr => ∃ (j k' : Nat) (H : Ht), 1 ≤ j ∧ j ≤ 16 ∧ kk = .int .i64 j ∧ k' ≤ k + 1 + 20 * j ∧ Dh w wr b k' a len cap zs R q (.slice (some ⟨y0, 0, none⟩) 16 k0) (.slice (some ⟨y1, 0, none⟩) 11 k1) (.slice a2 n2 k2) (.slice a3 n3 k3) H) (fun kk _ => 16 - (intOf kk).toNat)
  case atStart => exact ⟨1, k + 1, H0, by omega, by omega, rfl, by omega, D0.out⟩
  case round =>
    obtain ⟨j, k', H, hj1, hj, rfl, hk', hD⟩ := hrel
    have DD : Hid (Dh w wr b k' a len cap zs R q (.slice (some ⟨y0, 0, none⟩) 16 k0) (.slice (some ⟨y1, 0, none⟩) 11 k1) (.slice a2 n2 k2) (.slice a3 n3 k3) H) := hD
    have KB : Hid (k' ≤ k + 1 + 20 * j ∧ 1 ≤ j ∧ j ≤ 16) := ⟨hk', hj1, hj⟩
    clear hD hk'
    by_cases hlt : j < 16
    · have hJ : (j : Int) < 16 := by omega
      have HL : Hid (j < 16) := hlt
      clear hlt hj hj1
      go_wp2_with (go_at_call 50; refine (chance_any DD.out.src (by have := KB.out; have := HK.out; omega) _).mono ?_; rintro e u1 ⟨cv, rfl, t1, s1⟩; have D1 : Hid (Dh w u1 b (k' + 1) a len cap zs R q (.slice (some ⟨y0, 0, none⟩) 16 k0) (.slice (some ⟨y1, 0, none⟩) 11 k1) (.slice a2 n2 k2) (.slice a3 n3 k3) H) := DD.out.turn t1 s1; clear t1 s1; cases cv)
      · go_roundw
        case rel => exact ⟨j + 1, _, _, by have := HL.out; omega, by have := HL.out; omega, by go_num, by have := KB.out; omega, D1.out⟩
        case measure => have := HL.out; simp [intOf]; omega
      · skip
        have DR : Hid (Dh w u1.drew b (k' + 1) a len cap zs R q (.slice (some ⟨y0, 0, none⟩) 16 k0) (.slice (some ⟨y1, 0, none⟩) 11 k1) (.slice a2 n2 k2) (.slice a3 n3 k3) H) := D1.out.turn (Turn.of_below (Below.refl _ _).drew) (D1.out.src.turn (Turn.of_below (b := u1.heap.size) (Below.refl _ _).drew) (Nat.le_refl _))
        refine wp_region_held (S := fun w' => w'.cell? ⟨q, 0, none⟩ = some (.slice (some ⟨y0, 0, none⟩) 16 k0)) (by kernel_rfl) ?_
        change wpAnyH _ _ _ _ _ _ _ _ (World.drew _)
        have SD : Hid (u1.drew.cell? ⟨q, 0, none⟩ = some (.slice (some ⟨y0, 0, none⟩) 16 k0)) := DR.out.var.cell 0 rfl
        refine wpTk (i := 0) (v := .pointer (some ⟨q, 0, none⟩)) rfl (Or.inl ⟨by rfl, fun w' hs => by go_simp⟩) SD.out ?_
        change wpAnyH _ _ _ _ _ _ _ (Act.put _ (some 18) _) _
        simp only [Act.put, zT, zZ, zS]
        refine wpTk (i := 1) (v := (.slice (some ⟨y0, 0, none⟩) 16 k0)) rfl (Or.inl ⟨by rfl, fun w' hs => by go_simp⟩) SD.out ?_
        change wpAnyH _ _ _ _ _ _ _ (Act.put _ (some 19) _) _
        simp only [Act.put, zT, zZ, zS]
        refine wpTk (i := 2) (v := .int .i64 (j : Int)) rfl (Or.inl ⟨by rfl, fun w' hs => by go_simp⟩) SD.out ?_
        change wpAnyH _ _ _ _ _ _ _ (Act.put _ (some 20) _) _
        simp only [Act.put, zT, zZ, zS]
        refine wpTk (i := 3) (v := .pointer (some ⟨b, 0, none⟩)) rfl (Or.inl ⟨by rfl, fun w' hs => by go_simp⟩) SD.out ?_
        change wpAnyH _ _ _ _ _ _ _ (Act.put _ (some 21) _) _
        simp only [Act.put, zT, zZ, zS]
        refine wpTk (i := 4) (v := .pointer (some ⟨b, 0, none⟩)) rfl (Or.inl ⟨by rfl, fun w' hs => by go_simp⟩) SD.out ?_
        change wpAnyH _ _ _ _ _ _ _ (Act.put _ (some 22) _) _
        simp only [Act.put, zT, zZ, zS]
        refine wpTk (i := 6) (v := .pointer (some ⟨b, 0, none⟩)) rfl (Or.inl ⟨by rfl, fun w' hs => by go_simp⟩) SD.out ?_
        change wpAnyH _ _ _ _ _ _ _ (Act.put _ (some 24) _) _
        simp only [Act.put, zT, zZ, zS]
        refine wpTk (i := 8) (v := .pointer (some ⟨b, 0, none⟩)) rfl (Or.inl ⟨by rfl, fun w' hs => by go_simp⟩) SD.out ?_
        change wpAnyH _ _ _ _ _ _ _ (Act.put _ (some 26) _) _
        simp only [Act.put, zT, zZ, zS]
        refine zR 5 rfl fun K hK => ?_
        rw [if_pos (by rfl)]
        go_simp
        refine (word_any DR.out.src (by have := KB.out; have := HK.out; omega)).mono ?_
        rintro e u2 ⟨x1, rfl, -, t1, s1⟩
        have D2 : Hid (Dh w u2 b (k' + 1 + 5) a len cap zs R q (.slice (some ⟨y0, 0, none⟩) 16 k0) (.slice (some ⟨y1, 0, none⟩) 11 k1) (.slice a2 n2 k2) (.slice a3 n3 k3) H) := DR.out.turn t1 s1
        clear t1 s1
        refine hK.out _ _ (D2.out.var.cell 0 rfl) (fun _ => ?_)
        clear hK K
        refine zR 7 rfl fun K hK => ?_
        rw [if_pos (by rfl)]
        go_simp
        refine (next_any D2.out.src (by have := KB.out; have := HK.out; omega) _).mono ?_
        rintro e u3 ⟨x2, rfl, -, -, t1, s1⟩
        have D3 : Hid (Dh w u3 b (k' + 1 + 5 + 1) a len cap zs R q (.slice (some ⟨y0, 0, none⟩) 16 k0) (.slice (some ⟨y1, 0, none⟩) 11 k1) (.slice a2 n2 k2) (.slice a3 n3 k3) H) := D2.out.turn t1 s1
        clear t1 s1
        refine hK.out _ _ (D3.out.var.cell 0 rfl) (fun _ => ?_)
        clear hK K
        refine zR 9 rfl fun K hK => ?_
        rw [if_pos (by rfl)]
        go_simp
        refine (next_any D3.out.src (by have := KB.out; have := HK.out; omega) _).mono ?_
        rintro e u4 ⟨x3, rfl, hx3, -, t1, s1⟩
        have D4 : Hid (Dh w u4 b (k' + 1 + 5 + 1 + 1) a len cap zs R q (.slice (some ⟨y0, 0, none⟩) 16 k0) (.slice (some ⟨y1, 0, none⟩) 11 k1) (.slice a2 n2 k2) (.slice a3 n3 k3) H) := D3.out.turn t1 s1
        clear t1 s1
        refine hK.out _ _ (D4.out.var.cell 0 rfl) (fun _ => ?_)
        clear hK K
        obtain ⟨x30, x31⟩ := hx3 (by decide)
        clear hx3
        have hw56 : IntKind.i64.wrap (56 + x3) = 56 + x3 := by rw [IntKind.wrap_i64]; omega
        refine wpTk (i := 10) (v := .int .i64 (56 + x3)) rfl (Or.inl ⟨by rfl, fun w' hs => by go_simp⟩) (D4.out.var.cell 0 rfl) ?_
        change wpAnyH _ _ _ _ _ _ _ (Act.put _ (some 28) _) _
        simp only [Act.put, zT, zZ, zS]
        refine zR 11 rfl fun K hK => ?_
        rw [if_pos (by rfl)]
        go_simp
        have D5 : Hid (Dh w (u4.alloc (.cells #[.int .i64 x1, .int .i64 x2, .int .i64 (56 + x3)] 2)) b (k' + 1 + 5 + 1 + 1) a len cap zs R q (.slice (some ⟨y0, 0, none⟩) 16 k0) (.slice (some ⟨y1, 0, none⟩) 11 k1) (.slice a2 n2 k2) (.slice a3 n3 k3) H) := D4.out.turn (Turn.alloc _ _ _) (D4.out.src.alloc _)
        refine hK.out _ _ (D5.out.var.cell 0 rfl) (fun _ => ?_)
        clear hK K
        refine zR 12 rfl fun K hK => ?_
        rw [if_pos (by rfl)]
        go_simp
        refine (pick_any D5.out.src (by have := KB.out; have := HK.out; omega) (fun _ => True) _ 3 (by decide) (by decide) (by simp) (by have := D4.out.src.here; omega) (three_at _ _ _ _ _)).mono ?_
        rintro e u6 ⟨x6, rfl, -, t1, s1⟩
        have D6 : Hid (Dh w u6 b (k' + 1 + 5 + 1 + 1 + 1) a len cap zs R q (.slice (some ⟨y0, 0, none⟩) 16 k0) (.slice (some ⟨y1, 0, none⟩) 11 k1) (.slice a2 n2 k2) (.slice a3 n3 k3) H) := D5.out.turn t1 s1
        clear t1 s1
        refine hK.out _ _ (D6.out.var.cell 0 rfl) (fun _ => ?_)
        clear hK K
        refine wpTk (i := 13) (v := .pointer (some ⟨y0, j, none⟩)) rfl (Or.inl ⟨by rfl, fun w' hs => by go_simp⟩) (D6.out.var.cell 0 rfl) ?_
        change wpAnyH _ _ _ _ _ _ _ (Act.put _ (some 31) _) _
        simp only [Act.put, zT, zZ, zS]
        have cj := D6.out.m.r.cell D6.out.r16.symm j HL.out
        have fj := D6.out.m.r.free D6.out.r16.symm j
        have D7 : Hid (Dh w (u6.setCell ⟨y0, j, none⟩ (.int .i64 x6)) b (k' + 1 + 5 + 1 + 1 + 1) a len cap zs R q (.slice (some ⟨y0, 0, none⟩) 16 k0) (.slice (some ⟨y1, 0, none⟩) 11 k1) (.slice a2 n2 k2) (.slice a3 n3 k3) { H with regs := H.regs.set j x6 }) := D6.out.reg j x6
        refine zR 14 rfl fun K hK => ?_
        rw [if_pos (by rfl)]
        go_simp
        refine hK.out _ _ (D7.out.var.cell 0 rfl) (fun _ => ?_)
        clear hK K
        refine wpAnyH_done (by kernel_rfl) ?_ _
        generalize u6.setCell ⟨y0, j, none⟩ (.int .i64 x6) = u7 at *
        clear cj fj
        go_wp2_with fail
        go_roundw
        case rel => exact ⟨j + 1, _, _, by have := HL.out; omega, by have := HL.out; omega, by go_num, by have := KB.out; omega, D7.out⟩
        case measure => have := HL.out; simp [intOf]; omega
    · have hJ : ¬ (j : Int) < 16 := by omega
      clear hj1 hlt hj
      go_wp2_with fail
      refine (next_any DD.out.src (by have := KB.out; have := HK.out; omega) _).mono ?_
      rintro e u1 ⟨x1, rfl, -, -, t1, s1⟩
      have D1 : Hid (Dh w u1 b (k' + 1) a len cap zs R q (.slice (some ⟨y0, 0, none⟩) 16 k0) (.slice (some ⟨y1, 0, none⟩) 11 k1) (.slice a2 n2 k2) (.slice a3 n3 k3) H) := DD.out.turn t1 s1
      clear t1 s1
      go_wp2_with fail
      refine (next_any D1.out.src (by have := KB.out; have := HK.out; omega) _).mono ?_
      rintro e u2 ⟨x2, rfl, -, -, t1, s1⟩
      have D2 : Hid (Dh w u2 b (k' + 1 + 1) a len cap zs R q (.slice (some ⟨y0, 0, none⟩) 16 k0) (.slice (some ⟨y1, 0, none⟩) 11 k1) (.slice a2 n2 k2) (.slice a3 n3 k3) H) := D1.out.turn t1 s1
      clear t1 s1
      go_wp2_with fail
      refine (word_any D2.out.src (by have := KB.out; have := HK.out; omega)).mono ?_
      rintro e u3 ⟨x3, rfl, -, t1, s1⟩
      have D3 : Hid (Dh w u3 b (k' + 1 + 1 + 5) a len cap zs R q (.slice (some ⟨y0, 0, none⟩) 16 k0) (.slice (some ⟨y1, 0, none⟩) 11 k1) (.slice a2 n2 k2) (.slice a3 n3 k3) H) := D2.out.turn t1 s1
      clear t1 s1
      have D4 : Hid (Dh w (u3.alloc (.cells #[.int .i64 x1, .int .i64 x2, .int .i64 x3] 2)) b (k' + 1 + 1 + 5) a len cap zs R q (.slice (some ⟨y0, 0, none⟩) 16 k0) (.slice (some ⟨y1, 0, none⟩) 11 k1) (.slice a2 n2 k2) (.slice a3 n3 k3) H) := D3.out.turn (Turn.alloc _ _ _) (D3.out.src.alloc _)
      go_wp2_with fail
      refine (pick_any D4.out.src (by have := KB.out; have := HK.out; omega) (fun _ => True) _ 3 (by decide) (by decide) (by simp) (by have := D3.out.src.here; omega) (three_at _ _ _ _ _)).mono ?_
      rintro e u5 ⟨x5, rfl, -, t1, s1⟩
      have D5 : Hid (Dh w u5 b (k' + 1 + 1 + 5 + 1) a len cap zs R q (.slice (some ⟨y0, 0, none⟩) 16 k0) (.slice (some ⟨y1, 0, none⟩) 11 k1) (.slice a2 n2 k2) (.slice a3 n3 k3) H) := D4.out.turn t1 s1
      clear t1 s1
      have c1 := D5.out.var.cell 1 rfl
      have f1 := D5.out.var.free 1
      have D6 : Hid (Dh w (u5.setCell ⟨q, 1, none⟩ (.int .i64 x5)) b (k' + 1 + 1 + 5 + 1) a len cap zs R q (.slice (some ⟨y0, 0, none⟩) 16 k0) (.slice (some ⟨y1, 0, none⟩) 11 k1) (.slice a2 n2 k2) (.slice a3 n3 k3) { H with pc := x5 }) := D5.out.fld 1 _ _ rfl rfl rfl rfl (D5.out.var.set 1 _)
      go_wp2_with fail
      generalize u5.setCell ⟨q, 1, none⟩ (.int .i64 x5) = u6 at *
      clear c1 f1
      refine (next_any D6.out.src (by have := KB.out; have := HK.out; omega) _).mono ?_
      rintro e u7 ⟨x7, rfl, -, -, t1, s1⟩
      have D7 : Hid (Dh w u7 b (k' + 1 + 1 + 5 + 1 + 1) a len cap zs R q (.slice (some ⟨y0, 0, none⟩) 16 k0) (.slice (some ⟨y1, 0, none⟩) 11 k1) (.slice a2 n2 k2) (.slice a3 n3 k3) { H with pc := x5 }) := D6.out.turn t1 s1
      clear t1 s1
      have c6 := D7.out.var.cell 6 rfl
      have f6 := D7.out.var.free 6
      have D8 : Hid (Dh w (u7.setCell ⟨q, 6, none⟩ (.int .i64 x7)) b (k' + 1 + 1 + 5 + 1 + 1) a len cap zs R q (.slice (some ⟨y0, 0, none⟩) 16 k0) (.slice (some ⟨y1, 0, none⟩) 11 k1) (.slice a2 n2 k2) (.slice a3 n3 k3) { H with pc := x5, done := x7 }) := D7.out.fld 6 _ _ rfl rfl rfl rfl (D7.out.var.set 6 _)
      go_wp2_with fail
      generalize u7.setCell ⟨q, 6, none⟩ (.int .i64 x7) = u8 at *
      generalize ({ H with pc := x5, done := x7 } : Ht) = H8 at *
      clear c6 f6
      go_loopw [5] (fun kk wr => ∃ (j k9 : Nat) (H : Ht), j ≤ 11 ∧ kk = .int .i64 j ∧ k9 ≤ k + 400 + 20 * j ∧ Dh w wr b k9 a len cap zs R q (.slice (some ⟨y0, 0, none⟩) 16 k0) (.slice (some ⟨y1, 0, none⟩) 11 k1) (.slice a2 n2 k2) (.slice a3 n3 k3) H) (fun kk _ => 11 - (intOf kk).toNat)
      case atStart => exact ⟨0, _, H8, by omega, rfl, by have := KB.out; omega, D8.out⟩
      case round =>
        clear KB DD D1 D2 D3 D4 D5 D6 D7 D8
        obtain ⟨j, k', H, hj, rfl, hk', hD⟩ := hrel
        have DD : Hid (Dh w wr b k' a len cap zs R q (.slice (some ⟨y0, 0, none⟩) 16 k0) (.slice (some ⟨y1, 0, none⟩) 11 k1) (.slice a2 n2 k2) (.slice a3 n3 k3) H) := hD
        have KB : Hid (k' ≤ k + 400 + 20 * j ∧ j ≤ 11) := ⟨hk', hj⟩
        clear hD hk'
        by_cases hlt : j < 11
        · have hJ : (j : Int) < 11 := by omega
          have HL : Hid (j < 11) := hlt
          clear hlt hj
          go_wp2_with (go_at_call 50; refine (chance_any DD.out.src (by have := KB.out; have := HK.out; omega) _).mono ?_; rintro e u1 ⟨cv, rfl, t1, s1⟩; have D1 : Hid (Dh w u1 b (k' + 1) a len cap zs R q (.slice (some ⟨y0, 0, none⟩) 16 k0) (.slice (some ⟨y1, 0, none⟩) 11 k1) (.slice a2 n2 k2) (.slice a3 n3 k3) H) := DD.out.turn t1 s1; clear t1 s1; cases cv)
          · go_roundw
            case rel => exact ⟨j + 1, _, _, by have := HL.out; omega, by go_num, by have := KB.out; omega, D1.out⟩
            case measure => have := HL.out; simp [intOf]; omega
          · skip
            refine (next_any D1.out.src (by have := KB.out; have := HK.out; omega) _).mono ?_
            rintro e u2 ⟨x2, rfl, -, -, t1, s1⟩
            have D2 : Hid (Dh w u2 b (k' + 1 + 1) a len cap zs R q (.slice (some ⟨y0, 0, none⟩) 16 k0) (.slice (some ⟨y1, 0, none⟩) 11 k1) (.slice a2 n2 k2) (.slice a3 n3 k3) H) := D1.out.turn t1 s1
            clear t1 s1
            go_wp2_with fail
            refine (next_any D2.out.src (by have := KB.out; have := HK.out; omega) _).mono ?_
            rintro e u3 ⟨x3, rfl, -, -, t1, s1⟩
            have D3 : Hid (Dh w u3 b (k' + 1 + 1 + 1) a len cap zs R q (.slice (some ⟨y0, 0, none⟩) 16 k0) (.slice (some ⟨y1, 0, none⟩) 11 k1) (.slice a2 n2 k2) (.slice a3 n3 k3) H) := D2.out.turn t1 s1
            clear t1 s1
            go_wp2_with fail
            refine (word_any D3.out.src (by have := KB.out; have := HK.out; omega)).mono ?_
            rintro e u4 ⟨x4, rfl, -, t1, s1⟩
            have D4 : Hid (Dh w u4 b (k' + 1 + 1 + 1 + 5) a len cap zs R q (.slice (some ⟨y0, 0, none⟩) 16 k0) (.slice (some ⟨y1, 0, none⟩) 11 k1) (.slice a2 n2 k2) (.slice a3 n3 k3) H) := D3.out.turn t1 s1
            clear t1 s1
            have D5 : Hid (Dh w (u4.alloc (.cells #[.int .i64 x2, .int .i64 x3, .int .i64 x4] 2)) b (k' + 1 + 1 + 1 + 5) a len cap zs R q (.slice (some ⟨y0, 0, none⟩) 16 k0) (.slice (some ⟨y1, 0, none⟩) 11 k1) (.slice a2 n2 k2) (.slice a3 n3 k3) H) := D4.out.turn (Turn.alloc _ _ _) (D4.out.src.alloc _)
            go_wp2_with fail
            refine (pick_any D5.out.src (by have := KB.out; have := HK.out; omega) (fun _ => True) _ 3 (by decide) (by decide) (by simp) (by have := D4.out.src.here; omega) (three_at _ _ _ _ _)).mono ?_
            rintro e u6 ⟨x6, rfl, -, t1, s1⟩
            have D6 : Hid (Dh w u6 b (k' + 1 + 1 + 1 + 5 + 1) a len cap zs R q (.slice (some ⟨y0, 0, none⟩) 16 k0) (.slice (some ⟨y1, 0, none⟩) 11 k1) (.slice a2 n2 k2) (.slice a3 n3 k3) H) := D5.out.turn t1 s1
            clear t1 s1
            go_wp2_with fail
            refine (s_set_any q _ _ _ _ H (j : Int) x6 (R + 1) _ D6.out.m D6.out.ap D6.out.var D6.out.nq D6.out.c11 (by omega) (by have := HL.out; omega)).mono ?_
            rintro e u7 ⟨rfl, H', s7, h1, h2⟩
            have D7 : Hid (Dh w u7 b (k' + 1 + 1 + 1 + 5 + 1) a len cap zs R q (.slice (some ⟨y0, 0, none⟩) 16 k0) (.slice (some ⟨y1, 0, none⟩) 11 k1) (.slice a2 n2 k2) (.slice a3 n3 k3) H') := D6.out.sv s7 (h1.trans D6.out.r16) h2
            clear s7 h1 h2
            go_wp2_with fail
            go_roundw
            case rel => exact ⟨j + 1, _, _, by have := HL.out; omega, by go_num, by have := KB.out; omega, D7.out⟩
            case measure => have := HL.out; simp [intOf]; omega
        · have hJ : ¬ (j : Int) < 11 := by omega
          clear hlt hj
          go_wp2_with fail
          refine (chance_any DD.out.src (by have := KB.out; have := HK.out; omega) _).mono ?_
          rintro e p1 ⟨cv1, rfl, t1, s1⟩
          have E1 : Hid (Dh w p1 b (k' + 1) a len cap zs R q (.slice (some ⟨y0, 0, none⟩) 16 k0) (.slice (some ⟨y1, 0, none⟩) 11 k1) (.slice a2 n2 k2) (.slice a3 n3 k3) H) := DD.out.turn t1 s1
          clear t1 s1
          have c := E1.out.var.cell 5 rfl
          have f := E1.out.var.free 5
          have E2 : Hid (Dh w (p1.setCell ⟨q, 5, none⟩ (.bool cv1)) b (k' + 1) a len cap zs R q (.slice (some ⟨y0, 0, none⟩) 16 k0) (.slice (some ⟨y1, 0, none⟩) 11 k1) (.slice a2 n2 k2) (.slice a3 n3 k3) { H with rung := cv1 }) := E1.out.fld 5 _ _ rfl rfl rfl rfl (E1.out.var.set 5 _)
          go_wp2_with fail
          generalize p1.setCell ⟨q, 5, none⟩ (.bool cv1) = p2 at *
          clear c f
          refine (chance_any E2.out.src (by have := KB.out; have := HK.out; omega) _).mono ?_
          rintro e p3 ⟨cv2, rfl, t1, s1⟩
          have E3 : Hid (Dh w p3 b (k' + 1 + 1) a len cap zs R q (.slice (some ⟨y0, 0, none⟩) 16 k0) (.slice (some ⟨y1, 0, none⟩) 11 k1) (.slice a2 n2 k2) (.slice a3 n3 k3) { H with rung := cv1 }) := E2.out.turn t1 s1
          clear t1 s1
          have c := E3.out.var.cell 4 rfl
          have f := E3.out.var.free 4
          have E4 : Hid (Dh w (p3.setCell ⟨q, 4, none⟩ (.bool cv2)) b (k' + 1 + 1) a len cap zs R q (.slice (some ⟨y0, 0, none⟩) 16 k0) (.slice (some ⟨y1, 0, none⟩) 11 k1) (.slice a2 n2 k2) (.slice a3 n3 k3) { H with rung := cv1, waiting := cv2 }) := E3.out.fld 4 _ _ rfl rfl rfl rfl (E3.out.var.set 4 _)
          go_wp2_with fail
          generalize p3.setCell ⟨q, 4, none⟩ (.bool cv2) = p4 at *
          clear c f
          refine (chance_any E4.out.src (by have := KB.out; have := HK.out; omega) _).mono ?_
          rintro e p5 ⟨cv3, rfl, t1, s1⟩
          have E5 : Hid (Dh w p5 b (k' + 1 + 1 + 1) a len cap zs R q (.slice (some ⟨y0, 0, none⟩) 16 k0) (.slice (some ⟨y1, 0, none⟩) 11 k1) (.slice a2 n2 k2) (.slice a3 n3 k3) { H with rung := cv1, waiting := cv2 }) := E4.out.turn t1 s1
          clear t1 s1
          have c := E5.out.var.cell 3 rfl
          have f := E5.out.var.free 3
          have E6 : Hid (Dh w (p5.setCell ⟨q, 3, none⟩ (.bool cv3)) b (k' + 1 + 1 + 1) a len cap zs R q (.slice (some ⟨y0, 0, none⟩) 16 k0) (.slice (some ⟨y1, 0, none⟩) 11 k1) (.slice a2 n2 k2) (.slice a3 n3 k3) { H with rung := cv1, waiting := cv2, halted := cv3 }) := E5.out.fld 3 _ _ rfl rfl rfl rfl (E5.out.var.set 3 _)
          go_wp2_with fail
          generalize p5.setCell ⟨q, 3, none⟩ (.bool cv3) = p6 at *
          clear c f
          generalize ({ H with rung := cv1, waiting := cv2, halted := cv3 } : Ht) = G0 at *
          refine (chance_any E6.out.src (by have := KB.out; have := HK.out; omega) _).mono ?_
          rintro e p7 ⟨cv4, rfl, t1, s1⟩
          have E7 : Hid (Dh w p7 b (k' + 1 + 1 + 1 + 1) a len cap zs R q (.slice (some ⟨y0, 0, none⟩) 16 k0) (.slice (some ⟨y1, 0, none⟩) 11 k1) (.slice a2 n2 k2) (.slice a3 n3 k3) G0) := E6.out.turn t1 s1
          clear t1 s1
          cases cv4
          · obtain ⟨G, hG⟩ : ∃ G, G0 = G := ⟨_, rfl⟩
            rw [hG] at E7
            clear hG
            have l0 := E7.out.var.cell 0 rfl
            have r0 := E7.out.res.cell 0 rfl
            have f0 := E7.out.res.free 0
            have l1 := E7.out.var.cell 1 rfl
            have r1 := E7.out.res.cell 1 rfl
            have f1 := E7.out.res.free 1
            have l2 := E7.out.var.cell 2 rfl
            have r2 := E7.out.res.cell 2 rfl
            have f2 := E7.out.res.free 2
            have l3 := E7.out.var.cell 3 rfl
            have r3 := E7.out.res.cell 3 rfl
            have f3 := E7.out.res.free 3
            have l4 := E7.out.var.cell 4 rfl
            have r4 := E7.out.res.cell 4 rfl
            have f4 := E7.out.res.free 4
            have l5 := E7.out.var.cell 5 rfl
            have r5 := E7.out.res.cell 5 rfl
            have f5 := E7.out.res.free 5
            have l6 := E7.out.var.cell 6 rfl
            have r6 := E7.out.res.cell 6 rfl
            have f6 := E7.out.res.free 6
            have l7 := E7.out.var.cell 7 rfl
            have r7 := E7.out.res.cell 7 rfl
            have f7 := E7.out.res.free 7
            have l8 := E7.out.var.cell 8 rfl
            have r8 := E7.out.res.cell 8 rfl
            have f8 := E7.out.res.free 8
            have NN : Hid (_ ∧ _) := nine E7.out.res (.slice (some ⟨y0, 0, none⟩) 16 k0) (.int .i64 G.pc) (.slice (some ⟨y1, 0, none⟩) 11 k1) (.bool G.halted) (.bool G.waiting) (.bool G.rung) (.int .i64 G.done) (.slice a2 n2 k2) (.slice a3 n3 k3)
            go_wp2_with fail
            clear l0 r0 f0 l1 r1 f1 l2 r2 f2 l3 r3 f3 l4 r4 f4 l5 r5 f5 l6 r6 f6 l7 r7 f7 l8 r8 f8
            generalize (((((((((p7.setCell ⟨R, 0, none⟩ (.slice (some ⟨y0, 0, none⟩) 16 k0)).setCell ⟨R, 1, none⟩ (.int .i64 G.pc)).setCell ⟨R, 2, none⟩ (.slice (some ⟨y1, 0, none⟩) 11 k1)).setCell ⟨R, 3, none⟩ (.bool G.halted)).setCell ⟨R, 4, none⟩ (.bool G.waiting)).setCell ⟨R, 5, none⟩ (.bool G.rung)).setCell ⟨R, 6, none⟩ (.int .i64 G.done)).setCell ⟨R, 7, none⟩ (.slice a2 n2 k2)).setCell ⟨R, 8, none⟩ (.slice a3 n3 k3)) = V at *
            have x0 := NN.out.1.cell 0 rfl
            have x1 := NN.out.1.cell 1 rfl
            have x2 := NN.out.1.cell 2 rfl
            have x3 := NN.out.1.cell 3 rfl
            have x4 := NN.out.1.cell 4 rfl
            have x5 := NN.out.1.cell 5 rfl
            have x6 := NN.out.1.cell 6 rfl
            have x7 := NN.out.1.cell 7 rfl
            have x8 := NN.out.1.cell 8 rfl
            have hb := E7.out.hb
            have hRR := E7.out.hR
            have TV : Turn b w V := ⟨NN.out.2.os.trans E7.out.g.os, NN.out.2.tape.trans E7.out.g.tape, NN.out.2.output.trans E7.out.g.output, Nat.le_trans E7.out.g.size NN.out.2.size, fun x hx hn => (NN.out.2.block x (Nat.lt_of_lt_of_le hx E7.out.g.size) (by omega)).trans (E7.out.g.block x hx hn)⟩
            have MV := NN.out.2.hm E7.out.m (fun x e f => by have := (E7.out.m.own x e).1; omega)
            exact bodyPost_ret (v := .agg #[.slice (some ⟨y0, 0, none⟩) 16 k0, .int .i64 G.pc, .slice (some ⟨y1, 0, none⟩) 11 k1, .bool G.halted, .bool G.waiting, .bool G.rung, .int .i64 G.done, .slice a2 n2 k2, .slice a3 n3 k3]) (by simp [results, Tryz.results91, go_sem, x0, x1, x2, x3, x4, x5, x6, x7, x8]) rfl
              ⟨_, _, _, _, G, rfl, MV.mono (by omega), E7.out.ap, E7.out.r16, E7.out.c11, TV, _, by have := KB.out; omega, src_mq E7.out.src NN.out.2 hb⟩
          · obtain ⟨ti, hi, hz0, hz1, hz2⟩ := info_parts info_i64
            go_upto_region 19 with (at_make; refine wpList_make_full _ rfl _ _ 24 rfl p7.heap.size 2 ti _ 1 Tryz.underlying24 hi hz0 hz1 _ _ _ _ 40 rfl rfl rfl rfl (by rw [hz2]; omega) (by unfold maxLen; omega) (Nat.le_refl _) ?_; intro p8 hown hgrow; have bl : Below p7.heap.size p7 p8 := (Below.refl _ _).grown hgrow (Nat.le_refl _) (by simp); have c8 := (E7.out.var.keep bl).cell 8 rfl; have f8 := (E7.out.var.keep bl).free 8)
            have NO : Nums p8 p7.heap.size (.slice (some ⟨p7.heap.size, 0, none⟩) 40 40) (List.replicate 40 0) := Nums.made hown (by rw [Nat.mul_one, show (Value.int .i64 0).cells = #[.int .i64 0] from rfl, toList_madeCells_one]; simp)
            obtain ⟨py, hpy⟩ : ∃ py, p7.heap.size = py := ⟨_, rfl⟩
            have E8 := E7.out.newOut NO bl
            rw [hpy] at E8
            obtain ⟨G, hG⟩ : ∃ G, ({ G0 with out := List.replicate 40 0 } : Ht) = G := ⟨_, rfl⟩
            rw [hG] at E8
            have E9 : Hid (Dh w _ b _ a len cap zs R q _ _ _ _ G) := E8
            first | rw [hpy] | skip
            clear hown hgrow c8 f8 NO hi hz0 hz1 hz2 bl E8 hG hpy
            generalize p8.setCell ⟨q, 8, none⟩ (.slice (some ⟨py, 0, none⟩) 40 40) = p9 at *
            have l0 := E9.out.var.cell 0 rfl
            have r0 := E9.out.res.cell 0 rfl
            have f0 := E9.out.res.free 0
            have l1 := E9.out.var.cell 1 rfl
            have r1 := E9.out.res.cell 1 rfl
            have f1 := E9.out.res.free 1
            have l2 := E9.out.var.cell 2 rfl
            have r2 := E9.out.res.cell 2 rfl
            have f2 := E9.out.res.free 2
            have l3 := E9.out.var.cell 3 rfl
            have r3 := E9.out.res.cell 3 rfl
            have f3 := E9.out.res.free 3
            have l4 := E9.out.var.cell 4 rfl
            have r4 := E9.out.res.cell 4 rfl
            have f4 := E9.out.res.free 4
            have l5 := E9.out.var.cell 5 rfl
            have r5 := E9.out.res.cell 5 rfl
            have f5 := E9.out.res.free 5
            have l6 := E9.out.var.cell 6 rfl
            have r6 := E9.out.res.cell 6 rfl
            have f6 := E9.out.res.free 6
            have l7 := E9.out.var.cell 7 rfl
            have r7 := E9.out.res.cell 7 rfl
            have f7 := E9.out.res.free 7
            have l8 := E9.out.var.cell 8 rfl
            have r8 := E9.out.res.cell 8 rfl
            have f8 := E9.out.res.free 8
            have NN : Hid (_ ∧ _) := nine E9.out.res (.slice (some ⟨y0, 0, none⟩) 16 k0) (.int .i64 G.pc) (.slice (some ⟨y1, 0, none⟩) 11 k1) (.bool G.halted) (.bool G.waiting) (.bool G.rung) (.int .i64 G.done) (.slice a2 n2 k2) (.slice (some ⟨py, 0, none⟩) 40 40)
            go_wp2_with fail
            clear l0 r0 f0 l1 r1 f1 l2 r2 f2 l3 r3 f3 l4 r4 f4 l5 r5 f5 l6 r6 f6 l7 r7 f7 l8 r8 f8
            generalize (((((((((p9.setCell ⟨R, 0, none⟩ (.slice (some ⟨y0, 0, none⟩) 16 k0)).setCell ⟨R, 1, none⟩ (.int .i64 G.pc)).setCell ⟨R, 2, none⟩ (.slice (some ⟨y1, 0, none⟩) 11 k1)).setCell ⟨R, 3, none⟩ (.bool G.halted)).setCell ⟨R, 4, none⟩ (.bool G.waiting)).setCell ⟨R, 5, none⟩ (.bool G.rung)).setCell ⟨R, 6, none⟩ (.int .i64 G.done)).setCell ⟨R, 7, none⟩ (.slice a2 n2 k2)).setCell ⟨R, 8, none⟩ (.slice (some ⟨py, 0, none⟩) 40 40)) = V at *
            have x0 := NN.out.1.cell 0 rfl
            have x1 := NN.out.1.cell 1 rfl
            have x2 := NN.out.1.cell 2 rfl
            have x3 := NN.out.1.cell 3 rfl
            have x4 := NN.out.1.cell 4 rfl
            have x5 := NN.out.1.cell 5 rfl
            have x6 := NN.out.1.cell 6 rfl
            have x7 := NN.out.1.cell 7 rfl
            have x8 := NN.out.1.cell 8 rfl
            have hb := E9.out.hb
            have hRR := E9.out.hR
            have TV : Turn b w V := ⟨NN.out.2.os.trans E9.out.g.os, NN.out.2.tape.trans E9.out.g.tape, NN.out.2.output.trans E9.out.g.output, Nat.le_trans E9.out.g.size NN.out.2.size, fun x hx hn => (NN.out.2.block x (Nat.lt_of_lt_of_le hx E9.out.g.size) (by omega)).trans (E9.out.g.block x hx hn)⟩
            have MV := NN.out.2.hm E9.out.m (fun x e f => by have := (E9.out.m.own x e).1; omega)
            exact bodyPost_ret (v := .agg #[.slice (some ⟨y0, 0, none⟩) 16 k0, .int .i64 G.pc, .slice (some ⟨y1, 0, none⟩) 11 k1, .bool G.halted, .bool G.waiting, .bool G.rung, .int .i64 G.done, .slice a2 n2 k2, .slice (some ⟨py, 0, none⟩) 40 40]) (by simp [results, Tryz.results91, go_sem, x0, x1, x2, x3, x4, x5, x6, x7, x8]) rfl
              ⟨_, _, _, _, G, rfl, MV.mono (by omega), E9.out.ap, E9.out.r16, E9.out.c11, TV, _, by have := KB.out; omega, src_mq E9.out.src NN.out.2 hb⟩
theorem lits_at (w : World) (l : List Int) (t : TypeId) {m : Nat} (hm : m = l.length) : ∀ i, i < m → ∃ v : Int, (w.alloc (.cells (l.map (Value.int .i64)).toArray t)).cell? ⟨w.heap.size, i, none⟩ = some (.int .i64 v) ∧ True := by
  intro i hi
  subst hm
  exact ⟨l[i], cell_new (by simp), trivial⟩
theorem lits_turn {w w' : World} {b bl m : Nat} (t : Turn b w w') (hne : bl ≠ b) (h : ∀ i, i < m → ∃ v : Int, w.cell? ⟨bl, i, none⟩ = some (.int .i64 v) ∧ True) : ∀ i, i < m → ∃ v : Int, w'.cell? ⟨bl, i, none⟩ = some (.int .i64 v) ∧ True := by
  intro i hi
  obtain ⟨v, hv, -⟩ := h i hi
  refine ⟨v, ?_, trivial⟩
  have hl : bl < w.heap.size := block_of_cell hv
  have hb := t.block bl hl hne
  unfold World.cell? at *
  show (match w'.heap[bl]? with | _ => _) = _
  rw [hb]
  exact hv
theorem Dh.csr {w0 v : World} {b k : Nat} {a : Option Addr} {len cap : Nat} {zs : List Int} {R q y kr : Nat} {r i o : Value} {H : Ht} (h : Dh w0 v b k a len cap zs R q r (.slice (some ⟨y, 0, none⟩) 11 kr) i o H) (n : Nat) (u : Int) :
    Dh w0 (v.setCell ⟨y, n, none⟩ (.int .i64 u)) b k a len cap zs R q r (.slice (some ⟨y, 0, none⟩) 11 kr) i o { H with csr := H.csr.set n u } := by
  have hy := (h.m.c.lt y rfl).1
  have hb := h.hb; have hR := h.hR
  exact ⟨src_put h.src _ _ (by show b < y; omega), ⟨h.m.r.put _ _ (apt_ne h.ap.rc.swap rfl), (h.m.c.store n u).1, h.m.i.put _ _ (apt_ne h.ap.ci rfl), h.m.o.put _ _ (apt_ne h.ap.co rfl)⟩, h.ap, h.var.put _ _ (fun e => h.nq y (.inr (.inl rfl)) e.symm), h.res.put _ _ (by show R ≠ y; omega), turn_put h.g _ _ (by show w0.heap.size ≤ y; omega), h.nq, h.hb, h.hq, h.hR, h.r16, by simpa using h.c11⟩
theorem Dh.newIn {w0 v v' : World} {b k : Nat} {a : Option Addr} {len cap : Nat} {zs : List Int} {R q : Nat} {r c i o i' : Value} {H : Ht} {ys : List Int} (h : Dh w0 v b k a len cap zs R q r c i o H) (n : Nums v' v.heap.size i' ys) (bl : Below v.heap.size v v') :
    Dh w0 (v'.setCell ⟨q, 7, none⟩ i') b k a len cap zs R q r c i' o { H with inn := ys } := by
  have hb := h.hb; have hq := h.hq; have hR := h.hR
  have hql := h.var.lt
  have m := h.m.keep bl
  have nq : ∀ x, Own4 r c i' o x → x ≠ q := fun x e => by
    rcases e with e | e | e | e
    · exact h.nq x (.inl e)
    · exact h.nq x (.inr (.inl e))
    · have := (n.lt x e).1; omega
    · exact h.nq x (.inr (.inr (.inr e)))
  exact ⟨src_put (h.src.turn (Turn.of_below (b := v.heap.size) bl) (Nat.le_refl _)) _ _ (by show b < q; omega), ⟨m.r.put _ _ (fun e => nq q (.inl e) rfl), m.c.put _ _ (fun e => nq q (.inr (.inl e)) rfl), (n.put _ _ (fun e => nq q (.inr (.inr (.inl e))) rfl)).mono (by omega), m.o.put _ _ (fun e => nq q (.inr (.inr (.inr e))) rfl)⟩,
    ⟨h.ap.rc, h.m.r.apt n (Nat.le_refl _), h.ap.ro, h.m.c.apt n (Nat.le_refl _), h.ap.co, (h.m.o.apt n (Nat.le_refl _)).swap⟩, (h.var.keep bl).set 7 _, (h.res.keep bl).put _ _ (by show R ≠ q; omega), turn_put (h.g.trans (Turn.of_below bl)) _ _ (by show w0.heap.size ≤ q; omega), nq, h.hb, h.hq, h.hR, h.r16, h.c11⟩
set_option maxRecDepth 20000 in
set_option maxHeartbeats 16000000 in
theorem hbent_csr {w : World} {b k : Nat} {a : Option Addr} {len cap : Nat} {zs : List Int} (s : Src w b k a len cap zs) (hk : k ≤ 40000) :
    Calls Tryz.prog 48 #[.pointer (some ⟨b, 0, none⟩)] w fun e w' => ∃ a0 m0 k0 a1 m1 k1 a2 m2 k2 a3 m3 k3 H, e = .returned (.agg #[.slice a0 m0 k0, .int .i64 H.pc, .slice a1 m1 k1, .bool H.halted, .bool H.waiting, .bool H.rung, .int .i64 H.done, .slice a2 m2 k2, .slice a3 m3 k3]) ∧ ((Hm w' w.heap.size (.slice a0 m0 k0) (.slice a1 m1 k1) (.slice a2 m2 k2) (.slice a3 m3 k3) H ∧ Ha (.slice a0 m0 k0) (.slice a1 m1 k1) (.slice a2 m2 k2) (.slice a3 m3 k3)) ∨ (m0 = 15 ∧ m1 = 11 ∧ ∃ y, a1 = some ⟨y, 0, none⟩ ∧ H.csr.length = 11 ∧ Nums w' w.heap.size (.slice (some ⟨y, 0, none⟩) 11 k1) H.csr)) ∧ Turn b w w' ∧ ∃ k', k' ≤ k + 1100 ∧ Src w' b k' a len cap zs := by
  have HK : Hid (k ≤ 40000) := hk
  obtain ⟨R, hR⟩ : ∃ R, w.heap.size = R := ⟨_, rfl⟩
  have HR : Hid (w.heap.size = R) := hR
  have BR : Hid (b < R) := by show _ < _; rw [← hR]; exact s.here
  generalize hW : w.alloc (.cells #[.slice none 0 0, .int .i64 0, .slice none 0 0, .bool false, .bool false, .bool false, .int .i64 0, .slice none 0 0, .slice none 0 0] 26) = W
  have VR : Hid (Vb W R #[.slice none 0 0, .int .i64 0, .slice none 0 0, .bool false, .bool false, .bool false, .int .i64 0, .slice none 0 0, .slice none 0 0] 26) := by show Vb _ _ _ _; rw [← hW, ← hR]; exact Vb.new _ _ _
  have SW : Hid (Src W b k a len cap zs) := by show Src _ _ _ _ _ _ _; rw [← hW]; exact s.alloc _
  have TW : Hid (Turn b w W) := by show Turn _ _ _; rw [← hW]; exact Turn.alloc _ _ _
  clear s
  go_enter Tryz.func48, Tryz.ntmps48
  go_wp2_with fail
  clear hW hR
  refine (hart_any SW.out (by have := HK.out; omega)).mono ?_
  rintro e w2 ⟨r, c, i, o, H, rfl, m2, A2, h16, h11, t2, k', hk', s2⟩
  obtain ⟨a0, k0, rfl, hk00, _, g0⟩ := m2.r.shape
  obtain ⟨a1, k1, rfl, _, _, g1⟩ := m2.c.shape
  obtain ⟨a2, k2, rfl, _⟩ := m2.i.shape
  obtain ⟨a3, k3, rfl, _⟩ := m2.o.shape
  obtain ⟨y0, rfl⟩ := g0 (by omega)
  obtain ⟨y1, rfl⟩ := g1 (by omega)
  rw [h16] at m2 A2 hk00 ⊢
  rw [h11] at m2 A2 ⊢
  generalize H.inn.length = n2 at *
  generalize H.out.length = n3 at *
  have KB : Hid (k' ≤ k + 1000) := hk'
  obtain ⟨q, hq⟩ : ∃ q, w2.heap.size = q := ⟨_, rfl⟩
  have D0 : Hid (Dh w (w2.alloc (.cells #[.slice (some ⟨y0, 0, none⟩) 16 k0, .int .i64 H.pc, .slice (some ⟨y1, 0, none⟩) 11 k1, .bool H.halted, .bool H.waiting, .bool H.rung, .int .i64 H.done, .slice a2 n2 k2, .slice a3 n3 k3] 26)) b (k') a len cap zs R q (.slice (some ⟨y0, 0, none⟩) 16 k0) (.slice (some ⟨y1, 0, none⟩) 11 k1) (.slice a2 n2 k2) (.slice a3 n3 k3) H) := by
    have hRR := HR.out; have hBR := BR.out; have hl := VR.out.lt; have ht := t2.size
    refine ⟨s2.alloc _, (m2.keep (al (Below.refl _ _) _)).mono (by omega), A2, by rw [← hq]; exact Vb.new _ _ _, ((turn_mq t2).vb VR.out (by omega)).push _, (TW.out.trans t2).trans (Turn.alloc _ _ _), fun x e f => by have := (m2.own x e).2; omega, hBR, by omega, by omega, h16, h11⟩
  have K0 : Hid (16 ≤ k0) := hk00
  clear m2 A2 h16 h11 t2 hk' s2 g0 g1
  go_wp2_with fail
  generalize w2.alloc (.cells #[.slice (some ⟨y0, 0, none⟩) 16 k0, .int .i64 H.pc, .slice (some ⟨y1, 0, none⟩) 11 k1, .bool H.halted, .bool H.waiting, .bool H.rung, .int .i64 H.done, .slice a2 n2 k2, .slice a3 n3 k3] 26) = W2 at *
  clear hq
  refine (next_any D0.out.src (by have := KB.out; have := HK.out; omega) _).mono ?_
  rintro e u1 ⟨x1, rfl, hx1, -, t1, s1⟩
  have D1 : Hid (Dh w u1 b (k' + 1) a len cap zs R q (.slice (some ⟨y0, 0, none⟩) 16 k0) (.slice (some ⟨y1, 0, none⟩) 11 k1) (.slice a2 n2 k2) (.slice a3 n3 k3) H) := D0.out.turn t1 s1
  clear t1 s1 hx1
  by_cases e0 : x1 = 0
  · subst e0
    have c := D1.out.m.r.cell D1.out.r16.symm 0 (by decide)
    have f := D1.out.m.r.free D1.out.r16.symm 0
    have v0 := D1.out.var.cell 0 rfl
    have D4 : Hid (Dh w (u1.setCell ⟨y0, 0, none⟩ (.int .i64 1)) b (k' + 1) a len cap zs R q (.slice (some ⟨y0, 0, none⟩) 16 k0) (.slice (some ⟨y1, 0, none⟩) 11 k1) (.slice a2 n2 k2) (.slice a3 n3 k3) { H with regs := H.regs.set 0 1 }) := D1.out.reg 0 1
    go_upto_region 15 with fail
    generalize u1.setCell ⟨y0, 0, none⟩ (.int .i64 1) = u4 at *
    clear c f v0
    obtain ⟨G, hG⟩ : ∃ G, ({ H with regs := H.regs.set 0 1 } : Ht) = G := ⟨_, rfl⟩
    rw [hG] at D4
    clear hG
    have l0 := D4.out.var.cell 0 rfl
    have r0 := D4.out.res.cell 0 rfl
    have f0 := D4.out.res.free 0
    have l1 := D4.out.var.cell 1 rfl
    have r1 := D4.out.res.cell 1 rfl
    have f1 := D4.out.res.free 1
    have l2 := D4.out.var.cell 2 rfl
    have r2 := D4.out.res.cell 2 rfl
    have f2 := D4.out.res.free 2
    have l3 := D4.out.var.cell 3 rfl
    have r3 := D4.out.res.cell 3 rfl
    have f3 := D4.out.res.free 3
    have l4 := D4.out.var.cell 4 rfl
    have r4 := D4.out.res.cell 4 rfl
    have f4 := D4.out.res.free 4
    have l5 := D4.out.var.cell 5 rfl
    have r5 := D4.out.res.cell 5 rfl
    have f5 := D4.out.res.free 5
    have l6 := D4.out.var.cell 6 rfl
    have r6 := D4.out.res.cell 6 rfl
    have f6 := D4.out.res.free 6
    have l7 := D4.out.var.cell 7 rfl
    have r7 := D4.out.res.cell 7 rfl
    have f7 := D4.out.res.free 7
    have l8 := D4.out.var.cell 8 rfl
    have r8 := D4.out.res.cell 8 rfl
    have f8 := D4.out.res.free 8
    have NN : Hid (_ ∧ _) := nine D4.out.res (.slice (some ⟨y0, 0, none⟩) 16 k0) (.int .i64 G.pc) (.slice (some ⟨y1, 0, none⟩) 11 k1) (.bool G.halted) (.bool G.waiting) (.bool G.rung) (.int .i64 G.done) (.slice a2 n2 k2) (.slice a3 n3 k3)
    go_wp2_with fail
    clear l0 r0 f0 l1 r1 f1 l2 r2 f2 l3 r3 f3 l4 r4 f4 l5 r5 f5 l6 r6 f6 l7 r7 f7 l8 r8 f8
    generalize (((((((((u4.setCell ⟨R, 0, none⟩ (.slice (some ⟨y0, 0, none⟩) 16 k0)).setCell ⟨R, 1, none⟩ (.int .i64 G.pc)).setCell ⟨R, 2, none⟩ (.slice (some ⟨y1, 0, none⟩) 11 k1)).setCell ⟨R, 3, none⟩ (.bool G.halted)).setCell ⟨R, 4, none⟩ (.bool G.waiting)).setCell ⟨R, 5, none⟩ (.bool G.rung)).setCell ⟨R, 6, none⟩ (.int .i64 G.done)).setCell ⟨R, 7, none⟩ (.slice a2 n2 k2)).setCell ⟨R, 8, none⟩ (.slice a3 n3 k3)) = V at *
    have x0 := NN.out.1.cell 0 rfl
    have x1 := NN.out.1.cell 1 rfl
    have x2 := NN.out.1.cell 2 rfl
    have x3 := NN.out.1.cell 3 rfl
    have x4 := NN.out.1.cell 4 rfl
    have x5 := NN.out.1.cell 5 rfl
    have x6 := NN.out.1.cell 6 rfl
    have x7 := NN.out.1.cell 7 rfl
    have x8 := NN.out.1.cell 8 rfl
    have hb := D4.out.hb
    have hRR := D4.out.hR
    have hg := D4.out.g.size
    have TV : Turn b w V := ⟨NN.out.2.os.trans D4.out.g.os, NN.out.2.tape.trans D4.out.g.tape, NN.out.2.output.trans D4.out.g.output, Nat.le_trans D4.out.g.size NN.out.2.size, fun x hx hn => (NN.out.2.block x (Nat.lt_of_lt_of_le hx D4.out.g.size) (by omega)).trans (D4.out.g.block x hx hn)⟩
    have MV := NN.out.2.hm D4.out.m (fun x e f => by have := (D4.out.m.own x e).1; omega)
    exact bodyPost_ret (v := .agg #[.slice (some ⟨y0, 0, none⟩) 16 k0, .int .i64 G.pc, .slice (some ⟨y1, 0, none⟩) 11 k1, .bool G.halted, .bool G.waiting, .bool G.rung, .int .i64 G.done, .slice a2 n2 k2, .slice a3 n3 k3]) (by simp [results, Tryz.results48, go_sem, x0, x1, x2, x3, x4, x5, x6, x7, x8]) rfl
      ⟨_, _, _, _, _, _, _, _, _, _, _, _, G, rfl, .inl ⟨MV.mono (by omega), D4.out.ap⟩, TV, _, by have := KB.out; omega, src_mq D4.out.src NN.out.2 hb⟩
  by_cases e1 : x1 = 1
  · subst e1
    have v0 := D1.out.var.cell 0 rfl
    have f0 := D1.out.var.free 0
    have hk0 : 16 ≤ k0 := K0.out
    have hRq := D1.out.hq
    have hbR := D1.out.hb
    have hRw := D1.out.hR
    have QV : Hid (Vb (u1.setCell ⟨q, 0, none⟩ (.slice (some ⟨y0, 1, none⟩) 15 (k0 - 1))) q #[.slice (some ⟨y0, 1, none⟩) 15 (k0 - 1), .int .i64 H.pc, .slice (some ⟨y1, 0, none⟩) 11 k1, .bool H.halted, .bool H.waiting, .bool H.rung, .int .i64 H.done, .slice a2 n2 k2, .slice a3 n3 k3] 26) := D1.out.var.set 0 _
    have QR : Hid (Vb (u1.setCell ⟨q, 0, none⟩ (.slice (some ⟨y0, 1, none⟩) 15 (k0 - 1))) R #[.slice none 0 0, .int .i64 0, .slice none 0 0, .bool false, .bool false, .bool false, .int .i64 0, .slice none 0 0, .slice none 0 0] 26) := D1.out.res.put _ _ (by show R ≠ q; omega)
    have QG : Hid (Turn b w (u1.setCell ⟨q, 0, none⟩ (.slice (some ⟨y0, 1, none⟩) 15 (k0 - 1)))) := turn_put D1.out.g _ _ (by show w.heap.size ≤ q; omega)
    have QC : Hid (Nums (u1.setCell ⟨q, 0, none⟩ (.slice (some ⟨y0, 1, none⟩) 15 (k0 - 1))) (R + 1) (.slice (some ⟨y1, 0, none⟩) 11 k1) H.csr) := D1.out.m.c.put _ _ (fun e => D1.out.nq q (.inr (.inl e)) rfl)
    have QL : Hid (H.csr.length = 11) := D1.out.c11
    have QS : Hid (Src (u1.setCell ⟨q, 0, none⟩ (.slice (some ⟨y0, 1, none⟩) 15 (k0 - 1))) b (k' + 1) a len cap zs) := src_put D1.out.src _ _ (by show b < q; omega)
    clear hRq hbR hRw
    go_upto_region 15 with fail
    generalize u1.setCell ⟨q, 0, none⟩ (.slice (some ⟨y0, 1, none⟩) 15 (k0 - 1)) = u4 at *
    clear v0 f0 hk0
    obtain ⟨G, hG⟩ : ∃ G, (H : Ht) = G := ⟨_, rfl⟩
    rw [hG] at QV QC QL
    clear hG
    have l0 := QV.out.cell 0 rfl
    have r0 := QR.out.cell 0 rfl
    have f0 := QR.out.free 0
    have l1 := QV.out.cell 1 rfl
    have r1 := QR.out.cell 1 rfl
    have f1 := QR.out.free 1
    have l2 := QV.out.cell 2 rfl
    have r2 := QR.out.cell 2 rfl
    have f2 := QR.out.free 2
    have l3 := QV.out.cell 3 rfl
    have r3 := QR.out.cell 3 rfl
    have f3 := QR.out.free 3
    have l4 := QV.out.cell 4 rfl
    have r4 := QR.out.cell 4 rfl
    have f4 := QR.out.free 4
    have l5 := QV.out.cell 5 rfl
    have r5 := QR.out.cell 5 rfl
    have f5 := QR.out.free 5
    have l6 := QV.out.cell 6 rfl
    have r6 := QR.out.cell 6 rfl
    have f6 := QR.out.free 6
    have l7 := QV.out.cell 7 rfl
    have r7 := QR.out.cell 7 rfl
    have f7 := QR.out.free 7
    have l8 := QV.out.cell 8 rfl
    have r8 := QR.out.cell 8 rfl
    have f8 := QR.out.free 8
    have NN : Hid (_ ∧ _) := nine QR.out (.slice (some ⟨y0, 1, none⟩) 15 (k0 - 1)) (.int .i64 G.pc) (.slice (some ⟨y1, 0, none⟩) 11 k1) (.bool G.halted) (.bool G.waiting) (.bool G.rung) (.int .i64 G.done) (.slice a2 n2 k2) (.slice a3 n3 k3)
    go_wp2_with fail
    clear l0 r0 f0 l1 r1 f1 l2 r2 f2 l3 r3 f3 l4 r4 f4 l5 r5 f5 l6 r6 f6 l7 r7 f7 l8 r8 f8
    generalize (((((((((u4.setCell ⟨R, 0, none⟩ (.slice (some ⟨y0, 1, none⟩) 15 (k0 - 1))).setCell ⟨R, 1, none⟩ (.int .i64 G.pc)).setCell ⟨R, 2, none⟩ (.slice (some ⟨y1, 0, none⟩) 11 k1)).setCell ⟨R, 3, none⟩ (.bool G.halted)).setCell ⟨R, 4, none⟩ (.bool G.waiting)).setCell ⟨R, 5, none⟩ (.bool G.rung)).setCell ⟨R, 6, none⟩ (.int .i64 G.done)).setCell ⟨R, 7, none⟩ (.slice a2 n2 k2)).setCell ⟨R, 8, none⟩ (.slice a3 n3 k3)) = V at *
    have x0 := NN.out.1.cell 0 rfl
    have x1 := NN.out.1.cell 1 rfl
    have x2 := NN.out.1.cell 2 rfl
    have x3 := NN.out.1.cell 3 rfl
    have x4 := NN.out.1.cell 4 rfl
    have x5 := NN.out.1.cell 5 rfl
    have x6 := NN.out.1.cell 6 rfl
    have x7 := NN.out.1.cell 7 rfl
    have x8 := NN.out.1.cell 8 rfl
    have hb := D1.out.hb
    have hRR := D1.out.hR
    have hg := QG.out.size
    have TV : Turn b w V := ⟨NN.out.2.os.trans QG.out.os, NN.out.2.tape.trans QG.out.tape, NN.out.2.output.trans QG.out.output, Nat.le_trans QG.out.size NN.out.2.size, fun x hx hn => (NN.out.2.block x (Nat.lt_of_lt_of_le hx QG.out.size) (by omega)).trans (QG.out.block x hx hn)⟩
    exact bodyPost_ret (v := .agg #[.slice (some ⟨y0, 1, none⟩) 15 (k0 - 1), .int .i64 G.pc, .slice (some ⟨y1, 0, none⟩) 11 k1, .bool G.halted, .bool G.waiting, .bool G.rung, .int .i64 G.done, .slice a2 n2 k2, .slice a3 n3 k3]) (by simp [results, Tryz.results48, go_sem, x0, x1, x2, x3, x4, x5, x6, x7, x8]) rfl
      ⟨_, _, _, _, _, _, _, _, _, _, _, _, G, rfl, .inr ⟨rfl, rfl, y1, rfl, QL.out, (NN.out.2.nums QC.out (fun x e f => by have := (QC.out.lt x e).1; omega)).mono (by omega)⟩, TV, _, by have := KB.out; omega, src_mq QS.out NN.out.2 hb⟩
  by_cases e2 : x1 = 2
  · subst e2
    go_upto_region 8 with fail
    have DR : Hid (Dh w u1.drew b (k' + 1) a len cap zs R q (.slice (some ⟨y0, 0, none⟩) 16 k0) (.slice (some ⟨y1, 0, none⟩) 11 k1) (.slice a2 n2 k2) (.slice a3 n3 k3) H) := D1.out.turn (Turn.of_below (Below.refl _ _).drew) (D1.out.src.turn (Turn.of_below (b := u1.heap.size) (Below.refl _ _).drew) (Nat.le_refl _))
    refine wp_region_held (S := fun w' => w'.cell? ⟨q, 2, none⟩ = some (.slice (some ⟨y1, 0, none⟩) 11 k1)) (by kernel_rfl) ?_
    change wpAnyH _ _ _ _ _ _ _ _ (World.drew _)
    generalize u1.drew = v1 at *
    have SD : Hid (v1.cell? ⟨q, 2, none⟩ = some (.slice (some ⟨y1, 0, none⟩) 11 k1)) := DR.out.var.cell 2 rfl
    refine wpTk (i := 0) (v := .pointer (some ⟨q, 2, none⟩)) rfl (Or.inl ⟨by rfl, fun w' hs => by go_simp⟩) SD.out ?_
    change wpAnyH _ _ _ _ _ _ _ (Act.put _ (some 21) _) _
    simp only [Act.put, zT, zZ, zS]
    refine wpTk (i := 1) (v := (.slice (some ⟨y1, 0, none⟩) 11 k1)) rfl (Or.inl ⟨by rfl, fun w' hs => by go_simp⟩) SD.out ?_
    change wpAnyH _ _ _ _ _ _ _ (Act.put _ (some 22) _) _
    simp only [Act.put, zT, zZ, zS]
    refine wpTk (i := 2) (v := .pointer (some ⟨b, 0, none⟩)) rfl (Or.inl ⟨by rfl, fun w' hs => by go_simp⟩) SD.out ?_
    change wpAnyH _ _ _ _ _ _ _ (Act.put _ (some 23) _) _
    simp only [Act.put, zT, zZ, zS]
    refine wpTk (i := 4) (v := .pointer (some ⟨b, 0, none⟩)) rfl (Or.inl ⟨by rfl, fun w' hs => by go_simp⟩) SD.out ?_
    change wpAnyH _ _ _ _ _ _ _ (Act.put _ (some 25) _) _
    simp only [Act.put, zT, zZ, zS]
    clear SD
    refine wpAnyH_ready (rs := [3, 5]) (by kernel_rfl) (by simp) ?_
    refine AllReadyH.cons rfl (fun K hK => ?_) (AllReadyH.cons rfl (fun K hK => ?_) AllReadyH.nil)
    · skip
      rw [if_pos (by rfl)]
      go_simp
      refine (next_any DR.out.src (by have := KB.out; have := HK.out; omega) _).mono ?_
      rintro e u2 ⟨x2, rfl, hx2, -, t1, s1⟩
      obtain ⟨x20, x21⟩ := hx2 (by decide)
      obtain ⟨n, rfl⟩ := Int.eq_ofNat_of_zero_le x20
      have HN : Hid (n < 11) := by show _ < _; omega
      have hn11 : (n : Int) < 11 := by have := HN.out; omega
      have D2 : Hid (Dh w u2 b (k' + 1 + 1) a len cap zs R q (.slice (some ⟨y0, 0, none⟩) 16 k0) (.slice (some ⟨y1, 0, none⟩) 11 k1) (.slice a2 n2 k2) (.slice a3 n3 k3) H) := DR.out.turn t1 s1
      clear t1 s1 hx2 x20 x21
      refine hK.out _ _ (D2.out.var.cell 2 rfl) (fun _ => ?_)
      clear hK K
      refine zR 5 rfl fun K hK => ?_
      rw [if_pos (by rfl)]
      go_simp
      have D3 : Hid (Dh w (u2.alloc (.cells #[.int .i64 (-1), .int .i64 4, .int .i64 9, .int .i64 4294967296] 2)) b (k' + 1 + 1) a len cap zs R q (.slice (some ⟨y0, 0, none⟩) 16 k0) (.slice (some ⟨y1, 0, none⟩) 11 k1) (.slice a2 n2 k2) (.slice a3 n3 k3) H) := D2.out.turn (Turn.alloc _ _ _) (D2.out.src.alloc _)
      refine hK.out _ _ (D3.out.var.cell 2 rfl) (fun _ => ?_)
      clear hK K
      refine zR 6 rfl fun K hK => ?_
      rw [if_pos (by rfl)]
      go_simp
      refine (pick_any D3.out.src (by have := KB.out; have := HK.out; omega) (fun _ => True) _ 4 (by decide) (by decide) (by simp) (by have := D2.out.src.here; omega) (lits_at _ [-1, 4, 9, 4294967296] _ rfl)).mono ?_
      rintro e u6 ⟨x6, rfl, -, t1, s1⟩
      have D6 : Hid (Dh w u6 b (k' + 1 + 1 + 1) a len cap zs R q (.slice (some ⟨y0, 0, none⟩) 16 k0) (.slice (some ⟨y1, 0, none⟩) 11 k1) (.slice a2 n2 k2) (.slice a3 n3 k3) H) := D3.out.turn t1 s1
      clear t1 s1
      refine hK.out _ _ (D6.out.var.cell 2 rfl) (fun _ => ?_)
      clear hK K
      refine wpTk (i := 7) (v := .pointer (some ⟨y1, n, none⟩)) rfl (Or.inl ⟨by rfl, fun w' hs => by go_simp⟩) (D6.out.var.cell 2 rfl) ?_
      change wpAnyH _ _ _ _ _ _ _ (Act.put _ (some 28) _) _
      simp only [Act.put, zT, zZ, zS]
      have cj := D6.out.m.c.cell D6.out.c11.symm n HN.out
      have fj := D6.out.m.c.free D6.out.c11.symm n
      have D7 : Hid (Dh w (u6.setCell ⟨y1, n, none⟩ (.int .i64 x6)) b (k' + 1 + 1 + 1) a len cap zs R q (.slice (some ⟨y0, 0, none⟩) 16 k0) (.slice (some ⟨y1, 0, none⟩) 11 k1) (.slice a2 n2 k2) (.slice a3 n3 k3) { H with csr := H.csr.set n x6 }) := D6.out.csr n x6
      refine zR 8 rfl fun K hK => ?_
      rw [if_pos (by rfl)]
      go_simp
      refine hK.out _ _ (D7.out.var.cell 2 rfl) (fun _ => ?_)
      clear hK K
      refine wpAnyH_done (by kernel_rfl) ?_ _
      generalize u6.setCell ⟨y1, n, none⟩ (.int .i64 x6) = u7 at *
      clear cj fj
      go_upto_region 15 with fail
      obtain ⟨G, hG⟩ : ∃ G, ({ H with csr := H.csr.set n x6 } : Ht) = G := ⟨_, rfl⟩
      rw [hG] at D7
      clear hG
      have l0 := D7.out.var.cell 0 rfl
      have r0 := D7.out.res.cell 0 rfl
      have f0 := D7.out.res.free 0
      have l1 := D7.out.var.cell 1 rfl
      have r1 := D7.out.res.cell 1 rfl
      have f1 := D7.out.res.free 1
      have l2 := D7.out.var.cell 2 rfl
      have r2 := D7.out.res.cell 2 rfl
      have f2 := D7.out.res.free 2
      have l3 := D7.out.var.cell 3 rfl
      have r3 := D7.out.res.cell 3 rfl
      have f3 := D7.out.res.free 3
      have l4 := D7.out.var.cell 4 rfl
      have r4 := D7.out.res.cell 4 rfl
      have f4 := D7.out.res.free 4
      have l5 := D7.out.var.cell 5 rfl
      have r5 := D7.out.res.cell 5 rfl
      have f5 := D7.out.res.free 5
      have l6 := D7.out.var.cell 6 rfl
      have r6 := D7.out.res.cell 6 rfl
      have f6 := D7.out.res.free 6
      have l7 := D7.out.var.cell 7 rfl
      have r7 := D7.out.res.cell 7 rfl
      have f7 := D7.out.res.free 7
      have l8 := D7.out.var.cell 8 rfl
      have r8 := D7.out.res.cell 8 rfl
      have f8 := D7.out.res.free 8
      have NN : Hid (_ ∧ _) := nine D7.out.res (.slice (some ⟨y0, 0, none⟩) 16 k0) (.int .i64 G.pc) (.slice (some ⟨y1, 0, none⟩) 11 k1) (.bool G.halted) (.bool G.waiting) (.bool G.rung) (.int .i64 G.done) (.slice a2 n2 k2) (.slice a3 n3 k3)
      go_wp2_with fail
      clear l0 r0 f0 l1 r1 f1 l2 r2 f2 l3 r3 f3 l4 r4 f4 l5 r5 f5 l6 r6 f6 l7 r7 f7 l8 r8 f8
      generalize (((((((((u7.setCell ⟨R, 0, none⟩ (.slice (some ⟨y0, 0, none⟩) 16 k0)).setCell ⟨R, 1, none⟩ (.int .i64 G.pc)).setCell ⟨R, 2, none⟩ (.slice (some ⟨y1, 0, none⟩) 11 k1)).setCell ⟨R, 3, none⟩ (.bool G.halted)).setCell ⟨R, 4, none⟩ (.bool G.waiting)).setCell ⟨R, 5, none⟩ (.bool G.rung)).setCell ⟨R, 6, none⟩ (.int .i64 G.done)).setCell ⟨R, 7, none⟩ (.slice a2 n2 k2)).setCell ⟨R, 8, none⟩ (.slice a3 n3 k3)) = V at *
      have x0 := NN.out.1.cell 0 rfl
      have x1 := NN.out.1.cell 1 rfl
      have x2 := NN.out.1.cell 2 rfl
      have x3 := NN.out.1.cell 3 rfl
      have x4 := NN.out.1.cell 4 rfl
      have x5 := NN.out.1.cell 5 rfl
      have x6 := NN.out.1.cell 6 rfl
      have x7 := NN.out.1.cell 7 rfl
      have x8 := NN.out.1.cell 8 rfl
      have hb := D7.out.hb
      have hRR := D7.out.hR
      have hg := D7.out.g.size
      have TV : Turn b w V := ⟨NN.out.2.os.trans D7.out.g.os, NN.out.2.tape.trans D7.out.g.tape, NN.out.2.output.trans D7.out.g.output, Nat.le_trans D7.out.g.size NN.out.2.size, fun x hx hn => (NN.out.2.block x (Nat.lt_of_lt_of_le hx D7.out.g.size) (by omega)).trans (D7.out.g.block x hx hn)⟩
      have MV := NN.out.2.hm D7.out.m (fun x e f => by have := (D7.out.m.own x e).1; omega)
      exact bodyPost_ret (v := .agg #[.slice (some ⟨y0, 0, none⟩) 16 k0, .int .i64 G.pc, .slice (some ⟨y1, 0, none⟩) 11 k1, .bool G.halted, .bool G.waiting, .bool G.rung, .int .i64 G.done, .slice a2 n2 k2, .slice a3 n3 k3]) (by simp [results, Tryz.results48, go_sem, x0, x1, x2, x3, x4, x5, x6, x7, x8]) rfl
        ⟨_, _, _, _, _, _, _, _, _, _, _, _, G, rfl, .inl ⟨MV.mono (by omega), D7.out.ap⟩, TV, _, by have := KB.out; omega, src_mq D7.out.src NN.out.2 hb⟩
    · skip
      rw [if_pos (by rfl)]
      go_simp
      have D2 : Hid (Dh w (v1.alloc (.cells #[.int .i64 (-1), .int .i64 4, .int .i64 9, .int .i64 4294967296] 2)) b (k' + 1) a len cap zs R q (.slice (some ⟨y0, 0, none⟩) 16 k0) (.slice (some ⟨y1, 0, none⟩) 11 k1) (.slice a2 n2 k2) (.slice a3 n3 k3) H) := DR.out.turn (Turn.alloc _ _ _) (DR.out.src.alloc _)
      refine hK.out _ _ (D2.out.var.cell 2 rfl) (fun _ => ?_)
      clear hK K
      refine zR 3 rfl fun K hK => ?_
      rw [if_pos (by rfl)]
      go_simp
      refine (next_any D2.out.src (by have := KB.out; have := HK.out; omega) _).mono ?_
      rintro e u2 ⟨x2, rfl, hx2, -, t1, s1⟩
      obtain ⟨x20, x21⟩ := hx2 (by decide)
      obtain ⟨n, rfl⟩ := Int.eq_ofNat_of_zero_le x20
      have HN : Hid (n < 11) := by show _ < _; omega
      have hn11 : (n : Int) < 11 := by have := HN.out; omega
      have D3 : Hid (Dh w u2 b (k' + 1 + 1) a len cap zs R q (.slice (some ⟨y0, 0, none⟩) 16 k0) (.slice (some ⟨y1, 0, none⟩) 11 k1) (.slice a2 n2 k2) (.slice a3 n3 k3) H) := D2.out.turn t1 s1
      have LF : Hid (∀ i, i < 4 → ∃ v : Int, u2.cell? ⟨v1.heap.size, i, none⟩ = some (.int .i64 v) ∧ True) := lits_turn t1 (by have := DR.out.src.here; omega) (lits_at _ [-1, 4, 9, 4294967296] _ rfl)
      have LZ : Hid (v1.heap.size < u2.heap.size) := by have := t1.size; show _ < _; simp at this; omega
      clear t1 s1 hx2 x20 x21
      refine hK.out _ _ (D3.out.var.cell 2 rfl) (fun _ => ?_)
      clear hK K
      refine zR 6 rfl fun K hK => ?_
      rw [if_pos (by rfl)]
      go_simp
      refine (pick_any D3.out.src (by have := KB.out; have := HK.out; omega) (fun _ => True) _ 4 (by decide) (by decide) LZ.out (by have := DR.out.src.here; omega) LF.out).mono ?_
      rintro e u6 ⟨x6, rfl, -, t1, s1⟩
      have D6 : Hid (Dh w u6 b (k' + 1 + 1 + 1) a len cap zs R q (.slice (some ⟨y0, 0, none⟩) 16 k0) (.slice (some ⟨y1, 0, none⟩) 11 k1) (.slice a2 n2 k2) (.slice a3 n3 k3) H) := D3.out.turn t1 s1
      clear t1 s1
      refine hK.out _ _ (D6.out.var.cell 2 rfl) (fun _ => ?_)
      clear hK K
      refine wpTk (i := 7) (v := .pointer (some ⟨y1, n, none⟩)) rfl (Or.inl ⟨by rfl, fun w' hs => by go_simp⟩) (D6.out.var.cell 2 rfl) ?_
      change wpAnyH _ _ _ _ _ _ _ (Act.put _ (some 28) _) _
      simp only [Act.put, zT, zZ, zS]
      have cj := D6.out.m.c.cell D6.out.c11.symm n HN.out
      have fj := D6.out.m.c.free D6.out.c11.symm n
      have D7 : Hid (Dh w (u6.setCell ⟨y1, n, none⟩ (.int .i64 x6)) b (k' + 1 + 1 + 1) a len cap zs R q (.slice (some ⟨y0, 0, none⟩) 16 k0) (.slice (some ⟨y1, 0, none⟩) 11 k1) (.slice a2 n2 k2) (.slice a3 n3 k3) { H with csr := H.csr.set n x6 }) := D6.out.csr n x6
      refine zR 8 rfl fun K hK => ?_
      rw [if_pos (by rfl)]
      go_simp
      refine hK.out _ _ (D7.out.var.cell 2 rfl) (fun _ => ?_)
      clear hK K
      refine wpAnyH_done (by kernel_rfl) ?_ _
      generalize u6.setCell ⟨y1, n, none⟩ (.int .i64 x6) = u7 at *
      clear cj fj
      go_upto_region 15 with fail
      obtain ⟨G, hG⟩ : ∃ G, ({ H with csr := H.csr.set n x6 } : Ht) = G := ⟨_, rfl⟩
      rw [hG] at D7
      clear hG
      have l0 := D7.out.var.cell 0 rfl
      have r0 := D7.out.res.cell 0 rfl
      have f0 := D7.out.res.free 0
      have l1 := D7.out.var.cell 1 rfl
      have r1 := D7.out.res.cell 1 rfl
      have f1 := D7.out.res.free 1
      have l2 := D7.out.var.cell 2 rfl
      have r2 := D7.out.res.cell 2 rfl
      have f2 := D7.out.res.free 2
      have l3 := D7.out.var.cell 3 rfl
      have r3 := D7.out.res.cell 3 rfl
      have f3 := D7.out.res.free 3
      have l4 := D7.out.var.cell 4 rfl
      have r4 := D7.out.res.cell 4 rfl
      have f4 := D7.out.res.free 4
      have l5 := D7.out.var.cell 5 rfl
      have r5 := D7.out.res.cell 5 rfl
      have f5 := D7.out.res.free 5
      have l6 := D7.out.var.cell 6 rfl
      have r6 := D7.out.res.cell 6 rfl
      have f6 := D7.out.res.free 6
      have l7 := D7.out.var.cell 7 rfl
      have r7 := D7.out.res.cell 7 rfl
      have f7 := D7.out.res.free 7
      have l8 := D7.out.var.cell 8 rfl
      have r8 := D7.out.res.cell 8 rfl
      have f8 := D7.out.res.free 8
      have NN : Hid (_ ∧ _) := nine D7.out.res (.slice (some ⟨y0, 0, none⟩) 16 k0) (.int .i64 G.pc) (.slice (some ⟨y1, 0, none⟩) 11 k1) (.bool G.halted) (.bool G.waiting) (.bool G.rung) (.int .i64 G.done) (.slice a2 n2 k2) (.slice a3 n3 k3)
      go_wp2_with fail
      clear l0 r0 f0 l1 r1 f1 l2 r2 f2 l3 r3 f3 l4 r4 f4 l5 r5 f5 l6 r6 f6 l7 r7 f7 l8 r8 f8
      generalize (((((((((u7.setCell ⟨R, 0, none⟩ (.slice (some ⟨y0, 0, none⟩) 16 k0)).setCell ⟨R, 1, none⟩ (.int .i64 G.pc)).setCell ⟨R, 2, none⟩ (.slice (some ⟨y1, 0, none⟩) 11 k1)).setCell ⟨R, 3, none⟩ (.bool G.halted)).setCell ⟨R, 4, none⟩ (.bool G.waiting)).setCell ⟨R, 5, none⟩ (.bool G.rung)).setCell ⟨R, 6, none⟩ (.int .i64 G.done)).setCell ⟨R, 7, none⟩ (.slice a2 n2 k2)).setCell ⟨R, 8, none⟩ (.slice a3 n3 k3)) = V at *
      have x0 := NN.out.1.cell 0 rfl
      have x1 := NN.out.1.cell 1 rfl
      have x2 := NN.out.1.cell 2 rfl
      have x3 := NN.out.1.cell 3 rfl
      have x4 := NN.out.1.cell 4 rfl
      have x5 := NN.out.1.cell 5 rfl
      have x6 := NN.out.1.cell 6 rfl
      have x7 := NN.out.1.cell 7 rfl
      have x8 := NN.out.1.cell 8 rfl
      have hb := D7.out.hb
      have hRR := D7.out.hR
      have hg := D7.out.g.size
      have TV : Turn b w V := ⟨NN.out.2.os.trans D7.out.g.os, NN.out.2.tape.trans D7.out.g.tape, NN.out.2.output.trans D7.out.g.output, Nat.le_trans D7.out.g.size NN.out.2.size, fun x hx hn => (NN.out.2.block x (Nat.lt_of_lt_of_le hx D7.out.g.size) (by omega)).trans (D7.out.g.block x hx hn)⟩
      have MV := NN.out.2.hm D7.out.m (fun x e f => by have := (D7.out.m.own x e).1; omega)
      exact bodyPost_ret (v := .agg #[.slice (some ⟨y0, 0, none⟩) 16 k0, .int .i64 G.pc, .slice (some ⟨y1, 0, none⟩) 11 k1, .bool G.halted, .bool G.waiting, .bool G.rung, .int .i64 G.done, .slice a2 n2 k2, .slice a3 n3 k3]) (by simp [results, Tryz.results48, go_sem, x0, x1, x2, x3, x4, x5, x6, x7, x8]) rfl
        ⟨_, _, _, _, _, _, _, _, _, _, _, _, G, rfl, .inl ⟨MV.mono (by omega), D7.out.ap⟩, TV, _, by have := KB.out; omega, src_mq D7.out.src NN.out.2 hb⟩
  by_cases e3 : x1 = 3
  · subst e3
    have D2 : Hid (Dh w (u1.alloc (.cells #[.int .i64 (-1), .int .i64 4294967296] 2)) b (k' + 1) a len cap zs R q (.slice (some ⟨y0, 0, none⟩) 16 k0) (.slice (some ⟨y1, 0, none⟩) 11 k1) (.slice a2 n2 k2) (.slice a3 n3 k3) H) := D1.out.turn (Turn.alloc _ _ _) (D1.out.src.alloc _)
    go_wp2_with fail
    refine (pick_any D2.out.src (by have := KB.out; have := HK.out; omega) (fun _ => True) _ 2 (by decide) (by decide) (by simp) (by have := D1.out.src.here; omega) (lits_at _ [-1, 4294967296] _ rfl)).mono ?_
    rintro e u3 ⟨x3, rfl, -, t1, s1⟩
    have D3 : Hid (Dh w u3 b (k' + 1 + 1) a len cap zs R q (.slice (some ⟨y0, 0, none⟩) 16 k0) (.slice (some ⟨y1, 0, none⟩) 11 k1) (.slice a2 n2 k2) (.slice a3 n3 k3) H) := D2.out.turn t1 s1
    clear t1 s1
    have c := D3.out.var.cell 1 rfl
    have f := D3.out.var.free 1
    have D4 : Hid (Dh w (u3.setCell ⟨q, 1, none⟩ (.int .i64 x3)) b (k' + 1 + 1) a len cap zs R q (.slice (some ⟨y0, 0, none⟩) 16 k0) (.slice (some ⟨y1, 0, none⟩) 11 k1) (.slice a2 n2 k2) (.slice a3 n3 k3) { H with pc := x3 }) := D3.out.fld 1 _ _ rfl rfl rfl rfl (D3.out.var.set 1 _)
    go_upto_region 15 with fail
    generalize u3.setCell ⟨q, 1, none⟩ (.int .i64 x3) = u4 at *
    clear c f
    obtain ⟨G, hG⟩ : ∃ G, ({ H with pc := x3 } : Ht) = G := ⟨_, rfl⟩
    rw [hG] at D4
    clear hG
    have l0 := D4.out.var.cell 0 rfl
    have r0 := D4.out.res.cell 0 rfl
    have f0 := D4.out.res.free 0
    have l1 := D4.out.var.cell 1 rfl
    have r1 := D4.out.res.cell 1 rfl
    have f1 := D4.out.res.free 1
    have l2 := D4.out.var.cell 2 rfl
    have r2 := D4.out.res.cell 2 rfl
    have f2 := D4.out.res.free 2
    have l3 := D4.out.var.cell 3 rfl
    have r3 := D4.out.res.cell 3 rfl
    have f3 := D4.out.res.free 3
    have l4 := D4.out.var.cell 4 rfl
    have r4 := D4.out.res.cell 4 rfl
    have f4 := D4.out.res.free 4
    have l5 := D4.out.var.cell 5 rfl
    have r5 := D4.out.res.cell 5 rfl
    have f5 := D4.out.res.free 5
    have l6 := D4.out.var.cell 6 rfl
    have r6 := D4.out.res.cell 6 rfl
    have f6 := D4.out.res.free 6
    have l7 := D4.out.var.cell 7 rfl
    have r7 := D4.out.res.cell 7 rfl
    have f7 := D4.out.res.free 7
    have l8 := D4.out.var.cell 8 rfl
    have r8 := D4.out.res.cell 8 rfl
    have f8 := D4.out.res.free 8
    have NN : Hid (_ ∧ _) := nine D4.out.res (.slice (some ⟨y0, 0, none⟩) 16 k0) (.int .i64 G.pc) (.slice (some ⟨y1, 0, none⟩) 11 k1) (.bool G.halted) (.bool G.waiting) (.bool G.rung) (.int .i64 G.done) (.slice a2 n2 k2) (.slice a3 n3 k3)
    go_wp2_with fail
    clear l0 r0 f0 l1 r1 f1 l2 r2 f2 l3 r3 f3 l4 r4 f4 l5 r5 f5 l6 r6 f6 l7 r7 f7 l8 r8 f8
    generalize (((((((((u4.setCell ⟨R, 0, none⟩ (.slice (some ⟨y0, 0, none⟩) 16 k0)).setCell ⟨R, 1, none⟩ (.int .i64 G.pc)).setCell ⟨R, 2, none⟩ (.slice (some ⟨y1, 0, none⟩) 11 k1)).setCell ⟨R, 3, none⟩ (.bool G.halted)).setCell ⟨R, 4, none⟩ (.bool G.waiting)).setCell ⟨R, 5, none⟩ (.bool G.rung)).setCell ⟨R, 6, none⟩ (.int .i64 G.done)).setCell ⟨R, 7, none⟩ (.slice a2 n2 k2)).setCell ⟨R, 8, none⟩ (.slice a3 n3 k3)) = V at *
    have x0 := NN.out.1.cell 0 rfl
    have x1 := NN.out.1.cell 1 rfl
    have x2 := NN.out.1.cell 2 rfl
    have x3 := NN.out.1.cell 3 rfl
    have x4 := NN.out.1.cell 4 rfl
    have x5 := NN.out.1.cell 5 rfl
    have x6 := NN.out.1.cell 6 rfl
    have x7 := NN.out.1.cell 7 rfl
    have x8 := NN.out.1.cell 8 rfl
    have hb := D4.out.hb
    have hRR := D4.out.hR
    have hg := D4.out.g.size
    have TV : Turn b w V := ⟨NN.out.2.os.trans D4.out.g.os, NN.out.2.tape.trans D4.out.g.tape, NN.out.2.output.trans D4.out.g.output, Nat.le_trans D4.out.g.size NN.out.2.size, fun x hx hn => (NN.out.2.block x (Nat.lt_of_lt_of_le hx D4.out.g.size) (by omega)).trans (D4.out.g.block x hx hn)⟩
    have MV := NN.out.2.hm D4.out.m (fun x e f => by have := (D4.out.m.own x e).1; omega)
    exact bodyPost_ret (v := .agg #[.slice (some ⟨y0, 0, none⟩) 16 k0, .int .i64 G.pc, .slice (some ⟨y1, 0, none⟩) 11 k1, .bool G.halted, .bool G.waiting, .bool G.rung, .int .i64 G.done, .slice a2 n2 k2, .slice a3 n3 k3]) (by simp [results, Tryz.results48, go_sem, x0, x1, x2, x3, x4, x5, x6, x7, x8]) rfl
      ⟨_, _, _, _, _, _, _, _, _, _, _, _, G, rfl, .inl ⟨MV.mono (by omega), D4.out.ap⟩, TV, _, by have := KB.out; omega, src_mq D4.out.src NN.out.2 hb⟩
  by_cases e4 : x1 = 4
  · subst e4
    obtain ⟨ti, hi, hz0, hz1, hz2⟩ := info_parts info_i64
    go_upto_region 15 with (at_make; refine wpList_make_full _ rfl _ _ 24 rfl u1.heap.size 2 ti _ 1 Tryz.underlying24 hi hz0 hz1 _ _ _ _ 41 rfl rfl rfl rfl (by rw [hz2]; omega) (by unfold maxLen; omega) (Nat.le_refl _) ?_; intro p8 hown hgrow; have bl : Below u1.heap.size u1 p8 := (Below.refl _ _).grown hgrow (Nat.le_refl _) (by simp); have c8 := (D1.out.var.keep bl).cell 7 rfl; have f8 := (D1.out.var.keep bl).free 7)
    have NO : Nums p8 u1.heap.size (.slice (some ⟨u1.heap.size, 0, none⟩) 41 41) (List.replicate 41 0) := Nums.made hown (by rw [Nat.mul_one, show (Value.int .i64 0).cells = #[.int .i64 0] from rfl, toList_madeCells_one]; simp)
    obtain ⟨py, hpy⟩ : ∃ py, u1.heap.size = py := ⟨_, rfl⟩
    have E8 := D1.out.newIn NO bl
    rw [hpy] at E8
    obtain ⟨G, hG⟩ : ∃ G, ({ H with inn := List.replicate 41 0 } : Ht) = G := ⟨_, rfl⟩
    rw [hG] at E8
    have E9 : Hid (Dh w _ b _ a len cap zs R q _ _ _ _ G) := E8
    first | rw [hpy] | skip
    clear hown hgrow c8 f8 NO hi hz0 hz1 hz2 bl E8 hG hpy
    generalize p8.setCell ⟨q, 7, none⟩ (.slice (some ⟨py, 0, none⟩) 41 41) = u4 at *
    have l0 := E9.out.var.cell 0 rfl
    have r0 := E9.out.res.cell 0 rfl
    have f0 := E9.out.res.free 0
    have l1 := E9.out.var.cell 1 rfl
    have r1 := E9.out.res.cell 1 rfl
    have f1 := E9.out.res.free 1
    have l2 := E9.out.var.cell 2 rfl
    have r2 := E9.out.res.cell 2 rfl
    have f2 := E9.out.res.free 2
    have l3 := E9.out.var.cell 3 rfl
    have r3 := E9.out.res.cell 3 rfl
    have f3 := E9.out.res.free 3
    have l4 := E9.out.var.cell 4 rfl
    have r4 := E9.out.res.cell 4 rfl
    have f4 := E9.out.res.free 4
    have l5 := E9.out.var.cell 5 rfl
    have r5 := E9.out.res.cell 5 rfl
    have f5 := E9.out.res.free 5
    have l6 := E9.out.var.cell 6 rfl
    have r6 := E9.out.res.cell 6 rfl
    have f6 := E9.out.res.free 6
    have l7 := E9.out.var.cell 7 rfl
    have r7 := E9.out.res.cell 7 rfl
    have f7 := E9.out.res.free 7
    have l8 := E9.out.var.cell 8 rfl
    have r8 := E9.out.res.cell 8 rfl
    have f8 := E9.out.res.free 8
    have NN : Hid (_ ∧ _) := nine E9.out.res (.slice (some ⟨y0, 0, none⟩) 16 k0) (.int .i64 G.pc) (.slice (some ⟨y1, 0, none⟩) 11 k1) (.bool G.halted) (.bool G.waiting) (.bool G.rung) (.int .i64 G.done) (.slice (some ⟨py, 0, none⟩) 41 41) (.slice a3 n3 k3)
    go_wp2_with fail
    clear l0 r0 f0 l1 r1 f1 l2 r2 f2 l3 r3 f3 l4 r4 f4 l5 r5 f5 l6 r6 f6 l7 r7 f7 l8 r8 f8
    generalize (((((((((u4.setCell ⟨R, 0, none⟩ (.slice (some ⟨y0, 0, none⟩) 16 k0)).setCell ⟨R, 1, none⟩ (.int .i64 G.pc)).setCell ⟨R, 2, none⟩ (.slice (some ⟨y1, 0, none⟩) 11 k1)).setCell ⟨R, 3, none⟩ (.bool G.halted)).setCell ⟨R, 4, none⟩ (.bool G.waiting)).setCell ⟨R, 5, none⟩ (.bool G.rung)).setCell ⟨R, 6, none⟩ (.int .i64 G.done)).setCell ⟨R, 7, none⟩ (.slice (some ⟨py, 0, none⟩) 41 41)).setCell ⟨R, 8, none⟩ (.slice a3 n3 k3)) = V at *
    have x0 := NN.out.1.cell 0 rfl
    have x1 := NN.out.1.cell 1 rfl
    have x2 := NN.out.1.cell 2 rfl
    have x3 := NN.out.1.cell 3 rfl
    have x4 := NN.out.1.cell 4 rfl
    have x5 := NN.out.1.cell 5 rfl
    have x6 := NN.out.1.cell 6 rfl
    have x7 := NN.out.1.cell 7 rfl
    have x8 := NN.out.1.cell 8 rfl
    have hb := E9.out.hb
    have hRR := E9.out.hR
    have hg := E9.out.g.size
    have TV : Turn b w V := ⟨NN.out.2.os.trans E9.out.g.os, NN.out.2.tape.trans E9.out.g.tape, NN.out.2.output.trans E9.out.g.output, Nat.le_trans E9.out.g.size NN.out.2.size, fun x hx hn => (NN.out.2.block x (Nat.lt_of_lt_of_le hx E9.out.g.size) (by omega)).trans (E9.out.g.block x hx hn)⟩
    have MV := NN.out.2.hm E9.out.m (fun x e f => by have := (E9.out.m.own x e).1; omega)
    exact bodyPost_ret (v := .agg #[.slice (some ⟨y0, 0, none⟩) 16 k0, .int .i64 G.pc, .slice (some ⟨y1, 0, none⟩) 11 k1, .bool G.halted, .bool G.waiting, .bool G.rung, .int .i64 G.done, .slice (some ⟨py, 0, none⟩) 41 41, .slice a3 n3 k3]) (by simp [results, Tryz.results48, go_sem, x0, x1, x2, x3, x4, x5, x6, x7, x8]) rfl
      ⟨_, _, _, _, _, _, _, _, _, _, _, _, G, rfl, .inl ⟨MV.mono (by omega), E9.out.ap⟩, TV, _, by have := KB.out; omega, src_mq E9.out.src NN.out.2 hb⟩
  by_cases e5 : x1 = 5
  · subst e5
    have D2 : Hid (Dh w (u1.alloc (.cells #[.int .i64 (-1), .int .i64 1000000000, .int .i64 1000000001] 2)) b (k' + 1) a len cap zs R q (.slice (some ⟨y0, 0, none⟩) 16 k0) (.slice (some ⟨y1, 0, none⟩) 11 k1) (.slice a2 n2 k2) (.slice a3 n3 k3) H) := D1.out.turn (Turn.alloc _ _ _) (D1.out.src.alloc _)
    go_wp2_with fail
    refine (pick_any D2.out.src (by have := KB.out; have := HK.out; omega) (fun _ => True) _ 3 (by decide) (by decide) (by simp) (by have := D1.out.src.here; omega) (lits_at _ [-1, 1000000000, 1000000001] _ rfl)).mono ?_
    rintro e u3 ⟨x3, rfl, -, t1, s1⟩
    have D3 : Hid (Dh w u3 b (k' + 1 + 1) a len cap zs R q (.slice (some ⟨y0, 0, none⟩) 16 k0) (.slice (some ⟨y1, 0, none⟩) 11 k1) (.slice a2 n2 k2) (.slice a3 n3 k3) H) := D2.out.turn t1 s1
    clear t1 s1
    have c := D3.out.var.cell 6 rfl
    have f := D3.out.var.free 6
    have D4 : Hid (Dh w (u3.setCell ⟨q, 6, none⟩ (.int .i64 x3)) b (k' + 1 + 1) a len cap zs R q (.slice (some ⟨y0, 0, none⟩) 16 k0) (.slice (some ⟨y1, 0, none⟩) 11 k1) (.slice a2 n2 k2) (.slice a3 n3 k3) { H with done := x3 }) := D3.out.fld 6 _ _ rfl rfl rfl rfl (D3.out.var.set 6 _)
    go_upto_region 15 with fail
    generalize u3.setCell ⟨q, 6, none⟩ (.int .i64 x3) = u4 at *
    clear c f
    obtain ⟨G, hG⟩ : ∃ G, ({ H with done := x3 } : Ht) = G := ⟨_, rfl⟩
    rw [hG] at D4
    clear hG
    have l0 := D4.out.var.cell 0 rfl
    have r0 := D4.out.res.cell 0 rfl
    have f0 := D4.out.res.free 0
    have l1 := D4.out.var.cell 1 rfl
    have r1 := D4.out.res.cell 1 rfl
    have f1 := D4.out.res.free 1
    have l2 := D4.out.var.cell 2 rfl
    have r2 := D4.out.res.cell 2 rfl
    have f2 := D4.out.res.free 2
    have l3 := D4.out.var.cell 3 rfl
    have r3 := D4.out.res.cell 3 rfl
    have f3 := D4.out.res.free 3
    have l4 := D4.out.var.cell 4 rfl
    have r4 := D4.out.res.cell 4 rfl
    have f4 := D4.out.res.free 4
    have l5 := D4.out.var.cell 5 rfl
    have r5 := D4.out.res.cell 5 rfl
    have f5 := D4.out.res.free 5
    have l6 := D4.out.var.cell 6 rfl
    have r6 := D4.out.res.cell 6 rfl
    have f6 := D4.out.res.free 6
    have l7 := D4.out.var.cell 7 rfl
    have r7 := D4.out.res.cell 7 rfl
    have f7 := D4.out.res.free 7
    have l8 := D4.out.var.cell 8 rfl
    have r8 := D4.out.res.cell 8 rfl
    have f8 := D4.out.res.free 8
    have NN : Hid (_ ∧ _) := nine D4.out.res (.slice (some ⟨y0, 0, none⟩) 16 k0) (.int .i64 G.pc) (.slice (some ⟨y1, 0, none⟩) 11 k1) (.bool G.halted) (.bool G.waiting) (.bool G.rung) (.int .i64 G.done) (.slice a2 n2 k2) (.slice a3 n3 k3)
    go_wp2_with fail
    clear l0 r0 f0 l1 r1 f1 l2 r2 f2 l3 r3 f3 l4 r4 f4 l5 r5 f5 l6 r6 f6 l7 r7 f7 l8 r8 f8
    generalize (((((((((u4.setCell ⟨R, 0, none⟩ (.slice (some ⟨y0, 0, none⟩) 16 k0)).setCell ⟨R, 1, none⟩ (.int .i64 G.pc)).setCell ⟨R, 2, none⟩ (.slice (some ⟨y1, 0, none⟩) 11 k1)).setCell ⟨R, 3, none⟩ (.bool G.halted)).setCell ⟨R, 4, none⟩ (.bool G.waiting)).setCell ⟨R, 5, none⟩ (.bool G.rung)).setCell ⟨R, 6, none⟩ (.int .i64 G.done)).setCell ⟨R, 7, none⟩ (.slice a2 n2 k2)).setCell ⟨R, 8, none⟩ (.slice a3 n3 k3)) = V at *
    have x0 := NN.out.1.cell 0 rfl
    have x1 := NN.out.1.cell 1 rfl
    have x2 := NN.out.1.cell 2 rfl
    have x3 := NN.out.1.cell 3 rfl
    have x4 := NN.out.1.cell 4 rfl
    have x5 := NN.out.1.cell 5 rfl
    have x6 := NN.out.1.cell 6 rfl
    have x7 := NN.out.1.cell 7 rfl
    have x8 := NN.out.1.cell 8 rfl
    have hb := D4.out.hb
    have hRR := D4.out.hR
    have hg := D4.out.g.size
    have TV : Turn b w V := ⟨NN.out.2.os.trans D4.out.g.os, NN.out.2.tape.trans D4.out.g.tape, NN.out.2.output.trans D4.out.g.output, Nat.le_trans D4.out.g.size NN.out.2.size, fun x hx hn => (NN.out.2.block x (Nat.lt_of_lt_of_le hx D4.out.g.size) (by omega)).trans (D4.out.g.block x hx hn)⟩
    have MV := NN.out.2.hm D4.out.m (fun x e f => by have := (D4.out.m.own x e).1; omega)
    exact bodyPost_ret (v := .agg #[.slice (some ⟨y0, 0, none⟩) 16 k0, .int .i64 G.pc, .slice (some ⟨y1, 0, none⟩) 11 k1, .bool G.halted, .bool G.waiting, .bool G.rung, .int .i64 G.done, .slice a2 n2 k2, .slice a3 n3 k3]) (by simp [results, Tryz.results48, go_sem, x0, x1, x2, x3, x4, x5, x6, x7, x8]) rfl
      ⟨_, _, _, _, _, _, _, _, _, _, _, _, G, rfl, .inl ⟨MV.mono (by omega), D4.out.ap⟩, TV, _, by have := KB.out; omega, src_mq D4.out.src NN.out.2 hb⟩
  go_upto_region 15 with fail
  obtain ⟨G, hG⟩ : ∃ G, (H : Ht) = G := ⟨_, rfl⟩
  rw [hG] at D1
  clear hG
  have l0 := D1.out.var.cell 0 rfl
  have r0 := D1.out.res.cell 0 rfl
  have f0 := D1.out.res.free 0
  have l1 := D1.out.var.cell 1 rfl
  have r1 := D1.out.res.cell 1 rfl
  have f1 := D1.out.res.free 1
  have l2 := D1.out.var.cell 2 rfl
  have r2 := D1.out.res.cell 2 rfl
  have f2 := D1.out.res.free 2
  have l3 := D1.out.var.cell 3 rfl
  have r3 := D1.out.res.cell 3 rfl
  have f3 := D1.out.res.free 3
  have l4 := D1.out.var.cell 4 rfl
  have r4 := D1.out.res.cell 4 rfl
  have f4 := D1.out.res.free 4
  have l5 := D1.out.var.cell 5 rfl
  have r5 := D1.out.res.cell 5 rfl
  have f5 := D1.out.res.free 5
  have l6 := D1.out.var.cell 6 rfl
  have r6 := D1.out.res.cell 6 rfl
  have f6 := D1.out.res.free 6
  have l7 := D1.out.var.cell 7 rfl
  have r7 := D1.out.res.cell 7 rfl
  have f7 := D1.out.res.free 7
  have l8 := D1.out.var.cell 8 rfl
  have r8 := D1.out.res.cell 8 rfl
  have f8 := D1.out.res.free 8
  have NN : Hid (_ ∧ _) := nine D1.out.res (.slice (some ⟨y0, 0, none⟩) 16 k0) (.int .i64 G.pc) (.slice (some ⟨y1, 0, none⟩) 11 k1) (.bool G.halted) (.bool G.waiting) (.bool G.rung) (.int .i64 G.done) (.slice a2 n2 k2) (.slice a3 n3 k3)
  go_wp2_with fail
  clear l0 r0 f0 l1 r1 f1 l2 r2 f2 l3 r3 f3 l4 r4 f4 l5 r5 f5 l6 r6 f6 l7 r7 f7 l8 r8 f8
  generalize (((((((((u1.setCell ⟨R, 0, none⟩ (.slice (some ⟨y0, 0, none⟩) 16 k0)).setCell ⟨R, 1, none⟩ (.int .i64 G.pc)).setCell ⟨R, 2, none⟩ (.slice (some ⟨y1, 0, none⟩) 11 k1)).setCell ⟨R, 3, none⟩ (.bool G.halted)).setCell ⟨R, 4, none⟩ (.bool G.waiting)).setCell ⟨R, 5, none⟩ (.bool G.rung)).setCell ⟨R, 6, none⟩ (.int .i64 G.done)).setCell ⟨R, 7, none⟩ (.slice a2 n2 k2)).setCell ⟨R, 8, none⟩ (.slice a3 n3 k3)) = V at *
  have x0 := NN.out.1.cell 0 rfl
  have x1 := NN.out.1.cell 1 rfl
  have x2 := NN.out.1.cell 2 rfl
  have x3 := NN.out.1.cell 3 rfl
  have x4 := NN.out.1.cell 4 rfl
  have x5 := NN.out.1.cell 5 rfl
  have x6 := NN.out.1.cell 6 rfl
  have x7 := NN.out.1.cell 7 rfl
  have x8 := NN.out.1.cell 8 rfl
  have hb := D1.out.hb
  have hRR := D1.out.hR
  have hg := D1.out.g.size
  have TV : Turn b w V := ⟨NN.out.2.os.trans D1.out.g.os, NN.out.2.tape.trans D1.out.g.tape, NN.out.2.output.trans D1.out.g.output, Nat.le_trans D1.out.g.size NN.out.2.size, fun x hx hn => (NN.out.2.block x (Nat.lt_of_lt_of_le hx D1.out.g.size) (by omega)).trans (D1.out.g.block x hx hn)⟩
  have MV := NN.out.2.hm D1.out.m (fun x e f => by have := (D1.out.m.own x e).1; omega)
  exact bodyPost_ret (v := .agg #[.slice (some ⟨y0, 0, none⟩) 16 k0, .int .i64 G.pc, .slice (some ⟨y1, 0, none⟩) 11 k1, .bool G.halted, .bool G.waiting, .bool G.rung, .int .i64 G.done, .slice a2 n2 k2, .slice a3 n3 k3]) (by simp [results, Tryz.results48, go_sem, x0, x1, x2, x3, x4, x5, x6, x7, x8]) rfl
    ⟨_, _, _, _, _, _, _, _, _, _, _, _, G, rfl, .inl ⟨MV.mono (by omega), D1.out.ap⟩, TV, _, by have := KB.out; omega, src_mq D1.out.src NN.out.2 hb⟩
def Hz (w : World) (base : Nat) (a0 : Option Addr) (m0 k0 : Nat) (a1 : Option Addr) (m1 k1 : Nat) (a2 : Option Addr) (m2 k2 : Nat) (a3 : Option Addr) (m3 k3 : Nat) (H : Ht) : Prop :=
  (Hm w base (.slice a0 m0 k0) (.slice a1 m1 k1) (.slice a2 m2 k2) (.slice a3 m3 k3) H ∧ Ha (.slice a0 m0 k0) (.slice a1 m1 k1) (.slice a2 m2 k2) (.slice a3 m3 k3)) ∨ (m0 = 15 ∧ m1 = 11 ∧ ∃ y, a1 = some ⟨y, 0, none⟩ ∧ H.csr.length = 11 ∧ Nums w base (.slice (some ⟨y, 0, none⟩) 11 k1) H.csr)
theorem Hz.mq {S : Nat → Prop} {w w' : World} {base : Nat} {a0 : Option Addr} {m0 k0 : Nat} {a1 : Option Addr} {m1 k1 : Nat} {a2 : Option Addr} {m2 k2 : Nat} {a3 : Option Addr} {m3 k3 : Nat} {H : Ht} (h : Hz w base a0 m0 k0 a1 m1 k1 a2 m2 k2 a3 m3 k3 H) (m : Mq S w w') (hn : ∀ k, base ≤ k → k < w.heap.size → ¬ S k) : Hz w' base a0 m0 k0 a1 m1 k1 a2 m2 k2 a3 m3 k3 H := by
  rcases h with ⟨h, g⟩ | ⟨e0, e1, y, e2, hl, h⟩
  · exact .inl ⟨m.hm h (fun k e => hn k (h.own k e).1 (h.own k e).2), g⟩
  · exact .inr ⟨e0, e1, y, e2, hl, m.nums h (fun k e => hn k (h.lt k e).1 (h.lt k e).2)⟩
theorem Hz.turn {w w' : World} {base b : Nat} {a0 : Option Addr} {m0 k0 : Nat} {a1 : Option Addr} {m1 k1 : Nat} {a2 : Option Addr} {m2 k2 : Nat} {a3 : Option Addr} {m3 k3 : Nat} {H : Ht} (h : Hz w base a0 m0 k0 a1 m1 k1 a2 m2 k2 a3 m3 k3 H) (t : Turn b w w') (hb : b < base) : Hz w' base a0 m0 k0 a1 m1 k1 a2 m2 k2 a3 m3 k3 H := h.mq (turn_mq t) (fun k e _ f => by omega)
theorem Hz.mono {w : World} {base base' : Nat} {a0 : Option Addr} {m0 k0 : Nat} {a1 : Option Addr} {m1 k1 : Nat} {a2 : Option Addr} {m2 k2 : Nat} {a3 : Option Addr} {m3 k3 : Nat} {H : Ht} (h : Hz w base a0 m0 k0 a1 m1 k1 a2 m2 k2 a3 m3 k3 H) (hb : base' ≤ base) : Hz w base' a0 m0 k0 a1 m1 k1 a2 m2 k2 a3 m3 k3 H := by
  rcases h with ⟨h, g⟩ | ⟨e0, e1, y, e2, hl, h⟩
  · exact .inl ⟨h.mono hb, g⟩
  · exact .inr ⟨e0, e1, y, e2, hl, h.mono hb⟩
theorem Hz.store {w : World} {base : Nat} {a0 : Option Addr} {m0 k0 : Nat} {a1 : Option Addr} {m1 k1 : Nat} {a2 : Option Addr} {m2 k2 : Nat} {a3 : Option Addr} {m3 k3 : Nat} {H : Ht} (h : Hz w base a0 m0 k0 a1 m1 k1 a2 m2 k2 a3 m3 k3 H) (h1 : m1 = 11) :
    ∃ y, a1 = some ⟨y, 0, none⟩ ∧ base ≤ y ∧ y < w.heap.size ∧ (∃ z, w.cell? ⟨y, 10, none⟩ = some (.int .i64 z)) ∧ w.frozen? ⟨y, 10, none⟩ = false ∧ 11 ≤ k1 ∧ Hz (w.setCell ⟨y, 10, none⟩ (.int .i64 2)) base a0 m0 k0 a1 m1 k1 a2 m2 k2 a3 m3 k3 { H with csr := H.csr.set 10 2 } := by
  subst h1
  rcases h with ⟨h, g⟩ | ⟨e0, _, y, rfl, hl, h⟩
  · have hc := h.c
    have hl : H.csr.length = 11 := hc.len.symm
    obtain ⟨a, c, hv, hc1, _, hg⟩ := hc.shape
    obtain ⟨y, rfl⟩ := hg (by omega)
    rw [hl] at hv hc1
    simp only [Value.slice.injEq] at hv
    obtain ⟨rfl, -, rfl⟩ := hv
    have hy := hc.lt y rfl
    exact ⟨y, rfl, hy.1, hy.2, ⟨_, hc.cell hl.symm 10 (by decide)⟩, hc.free hl.symm 10, hc1, .inl ⟨⟨h.r.put _ _ (apt_ne g.rc.swap rfl), (hc.store 10 2).1, h.i.put _ _ (apt_ne g.ci rfl), h.o.put _ _ (apt_ne g.co rfl)⟩, g⟩⟩
  · have hy := h.lt y rfl
    exact ⟨y, rfl, hy.1, hy.2, ⟨_, h.cell hl.symm 10 (by decide)⟩, h.free hl.symm 10, h.lens.1, .inr ⟨e0, rfl, y, rfl, by simpa using hl, (h.store 10 2).1⟩⟩
theorem Drawn8.mq {S : Nat → Prop} {w w' : World} {base : Nat} {v : Value} (h : Drawn8 w base v) (m : Mq S w w') (hn : ∀ k, base ≤ k → k < w.heap.size → ¬ S k) : Drawn8 w' base v := by
  have g : ∀ {u : Value} {rs : List (Int × Int)}, Prs 36 w base u rs → Prs 36 w' base u rs := fun {u rs} k => by
    have hl := k.lt
    obtain ⟨h1, h2 | ⟨g, cap, cur, hv, hg, hr, rest⟩⟩ := k
    · exact ⟨h1, .inl h2⟩
    · refine ⟨h1, .inr ⟨g, cap, cur, hv, hg, ?_, rest⟩⟩
      have hh := hl g (by rw [hv]; rfl)
      rw [m.block g hh.2 (hn g hh.1 hh.2)]
      exact hr
  rcases h with ⟨rs, h, hl⟩ | ⟨x, yc, c2, rs, rfl, h, hl⟩
  · exact .inl ⟨rs, g h, hl⟩
  · exact .inr ⟨x, yc, c2, rs, rfl, g h, hl⟩
theorem put_mq (w : World) (y j : Nat) (u : Value) : Mq (fun k => k = y) w (w.setCell ⟨y, j, none⟩ u) := (Mq.refl _ w).set _ _ rfl
theorem drawnM_mq {w w' : World} {base base' R : Nat} {v : Value} (h : DrawnM w base v) (m : Mq (fun k => k = R) w w') (hn : R < base) (hb : base' ≤ base) : DrawnM w' base' v := by
  rcases h with ⟨zs, h, hl⟩ | h
  · exact .inl ⟨zs, (m.nums h (fun k e f => by have := (h.lt k e).1; omega)).mono hb, hl⟩
  · exact .inr h
theorem field_memW (x y : Value) (w : World) : (Instr.field 97 (.agg #[x, y]) 1).run Tryz.prog w = .ok y w := by kernel_rfl
set_option maxRecDepth 20000 in
set_option maxHeartbeats 16000000 in
theorem world_any {w : World} {b k : Nat} {a : Option Addr} {len cap : Nat} {zs : List Int} (s : Src w b k a len cap zs) (hk : k ≤ 1000) :
    Calls Tryz.prog 24 #[.pointer (some ⟨b, 0, none⟩)] w fun e w' => ∃ a0 m0 k0 a1 m1 k1 a2 m2 k2 a3 m3 k3 H vl vm, e = .returned (.tuple #[.agg #[.slice a0 m0 k0, .int .i64 H.pc, .slice a1 m1 k1, .bool H.halted, .bool H.waiting, .bool H.rung, .int .i64 H.done, .slice a2 m2 k2, .slice a3 m3 k3], vl, vm]) ∧ Hz w' w.heap.size a0 m0 k0 a1 m1 k1 a2 m2 k2 a3 m3 k3 H ∧ Drawn8 w' w.heap.size vl ∧ DrawnM w' w.heap.size vm ∧ Turn b w w' ∧ ∃ k', k' ≤ 10000 ∧ Src w' b k' a len cap zs := by
  have HK : Hid (k ≤ 1000) := hk
  obtain ⟨R, hR⟩ : ∃ R, w.heap.size = R := ⟨_, rfl⟩
  have HR : Hid (w.heap.size = R) := hR
  have BR : Hid (b < R) := by show _ < _; rw [← hR]; exact s.here
  generalize hW : w.alloc (.cells #[.slice none 0 0, .int .i64 0, .slice none 0 0, .bool false, .bool false, .bool false, .int .i64 0, .slice none 0 0, .slice none 0 0] 26) = W
  have VR : Hid (Vb W R #[.slice none 0 0, .int .i64 0, .slice none 0 0, .bool false, .bool false, .bool false, .int .i64 0, .slice none 0 0, .slice none 0 0] 26) := by show Vb _ _ _ _; rw [← hW, ← hR]; exact Vb.new _ _ _
  have SW : Hid (Src W b k a len cap zs) := by show Src _ _ _ _ _ _ _; rw [← hW]; exact s.alloc _
  have TW : Hid (Turn b w W) := by show Turn _ _ _; rw [← hW]; exact Turn.alloc _ _ _
  have LW : Hid (R < W.heap.size) := VR.out.lt
  clear s
  go_enter Tryz.func24, Tryz.ntmps24
  go_wp2_with fail
  clear hW hR
  refine (hbent_csr SW.out (by have := HK.out; omega)).mono ?_
  rintro e w2 ⟨a0, m0, k0, a1, m1, k1, a2, m2, k2, a3, m3, k3, H, rfl, hd, t2, kA, hkA, s2⟩
  have KA : Hid (kA ≤ k + 1100) := hkA
  obtain ⟨q, hq⟩ : ∃ q, w2.heap.size = q := ⟨_, rfl⟩
  obtain ⟨W2, hW2⟩ : ∃ W2, w2.alloc (.cells #[.slice a0 m0 k0, .int .i64 H.pc, .slice a1 m1 k1, .bool H.halted, .bool H.waiting, .bool H.rung, .int .i64 H.done, .slice a2 m2 k2, .slice a3 m3 k3] 26) = W2 := ⟨_, rfl⟩
  have tA : Turn b w2 W2 := by rw [← hW2]; exact Turn.alloc _ _ _
  have H2 : Hid (Hz W2 W.heap.size a0 m0 k0 a1 m1 k1 a2 m2 k2 a3 m3 k3 H) := (show Hz w2 W.heap.size a0 m0 k0 a1 m1 k1 a2 m2 k2 a3 m3 k3 H from hd).turn tA (by have := BR.out; have := LW.out; omega)
  have H0 : Hid (∀ y, a1 = some ⟨y, 0, none⟩ → m1 = 11 → y < q) := fun y e1 e2 => by
    obtain ⟨y', e', _, hy', _⟩ := (show Hz w2 W.heap.size a0 m0 k0 a1 m1 k1 a2 m2 k2 a3 m3 k3 H from hd).store e2
    rw [e1] at e'
    simp only [Option.some.injEq, Addr.mk.injEq] at e'
    obtain ⟨rfl, -⟩ := e'
    rw [← hq]; exact hy'
  have V2 : Hid (Vb W2 q #[.slice a0 m0 k0, .int .i64 H.pc, .slice a1 m1 k1, .bool H.halted, .bool H.waiting, .bool H.rung, .int .i64 H.done, .slice a2 m2 k2, .slice a3 m3 k3] 26) := by show Vb _ _ _ _; rw [← hW2, ← hq]; exact Vb.new _ _ _
  have R2 : Hid (Vb W2 R #[.slice none 0 0, .int .i64 0, .slice none 0 0, .bool false, .bool false, .bool false, .int .i64 0, .slice none 0 0, .slice none 0 0] 26) := (turn_mq tA).vb ((turn_mq t2).vb VR.out (by have := BR.out; omega)) (by have := BR.out; omega)
  have T2 : Hid (Turn b w W2) := (TW.out.trans t2).trans tA
  have S2 : Hid (Src W2 b kA a len cap zs) := by show Src _ _ _ _ _ _ _; rw [← hW2]; exact s2.alloc _
  have LQ : Hid (W.heap.size ≤ q ∧ q < W2.heap.size ∧ b < W.heap.size ∧ R < W.heap.size) := ⟨by have := t2.size; omega, V2.out.lt, by have := BR.out; have := LW.out; omega, LW.out⟩
  clear hd t2 hkA s2 tA
  go_wp2_with fail
  try rw [hW2]
  try rw [hq]
  clear hW2 hq
  refine (bent_rows S2.out (by have := KA.out; have := HK.out; omega) 6).mono ?_
  rintro e w3 ⟨vl, kB, rfl, dl, hkB, t3, s3⟩
  have L3 : Hid (Drawn8 w3 W2.heap.size vl) := dl
  have T3 : Hid (Turn b W2 w3) := t3
  have S3 : Hid (Src w3 b kB a len cap zs) := s3
  have KB : Hid (kB ≤ k + 1200) := by have := KA.out; show _ ≤ _; omega
  clear dl hkB t3 s3
  go_wp2_with fail
  refine (chance_any S3.out (by have := KB.out; have := HK.out; omega) _).mono ?_
  rintro e w4 ⟨c4, rfl, t4, s4⟩
  have L4 : Hid (Drawn8 w4 W2.heap.size vl) := L3.out.turn t4 (by have := LQ.out; omega)
  have T4 : Hid (Turn b W2 w4) := T3.out.trans t4
  have S4 : Hid (Src w4 b (kB + 1) a len cap zs) := s4
  clear t4 s4
  go_upto_if 18 with fail
  go_cut [7] from 19 to 30 (fun c wx => Drawn8 wx W2.heap.size vl ∧ Turn b W2 wx ∧ Src wx b (kB + 1) a len cap zs)
  case first =>
    cases c4
    · rcases L4.out with ⟨rs, hP, hl⟩ | ⟨g, yc, c2, rs, rfl, hP, hl⟩
      · obtain ⟨ya, yc, hv, l1, l2, hg⟩ := hP.shape
        rw [hl] at hv l1 hg
        obtain ⟨g, rfl⟩ := hg (by omega)
        subst hv
        have P4 : Hid (Prs 36 w4 W2.heap.size (.slice (some ⟨g, 0, none⟩) 8 yc) rs ∧ rs.length = 8) := ⟨hP, hl⟩
        clear hP hl hg l1 l2 L3 L4
        go_wp2_with fail
        go_loopw [7] (fun c wr => ∃ (j : Nat) (rs : List (Int × Int)), j ≤ 5 ∧ c = .int .i64 (j : Int) ∧ rs.length = 8 ∧ Prs 36 wr W2.heap.size (.slice (some ⟨g, 0, none⟩) 8 yc) rs ∧ Turn b W2 wr ∧ Src wr b (kB + 1) a len cap zs) (fun c _ => 5 - (intOf c).toNat)
        case atStart => exact ⟨0, rs, by omega, rfl, P4.out.2, P4.out.1, T4.out, S4.out⟩
        case round =>
          obtain ⟨j, qs, hj, rfl, hqs, hP, hT, hS⟩ := hrel
          have PJ : Hid (Prs 36 wr W2.heap.size (.slice (some ⟨g, 0, none⟩) 8 yc) qs) := hP
          have TJ : Hid (Turn b W2 wr) := hT
          have SJ : Hid (Src wr b (kB + 1) a len cap zs) := hS
          have LJ : Hid (qs.length = 8) := hqs
          have GB : Hid (W2.heap.size ≤ g) := (hP.lt g rfl).1
          clear hP hT hS hqs
          have e : j = 0 ∨ j = 1 ∨ j = 2 ∨ j = 3 ∨ j = 4 ∨ j = 5 := by omega
          clear hj
          rcases e with rfl | rfl | rfl | rfl | rfl | rfl
          · have c0 : wr.cell? ⟨g, 0, none⟩ = some (.int .i64 _) := (PJ.out.cell LJ.out.symm 0 (by decide)).1
            have c1 : wr.cell? ⟨g, 1, none⟩ = some (.int .i64 _) := (PJ.out.cell LJ.out.symm 0 (by decide)).2
            have f0 := PJ.out.free LJ.out.symm 0
            have f1 := PJ.out.free LJ.out.symm 1
            go_wp2_with fail
            go_roundw
            case rel =>
              refine ⟨1, qs.set 0 (0, 7), by omega, by go_num, by rw [List.length_set]; exact LJ.out, PJ.out.store LJ.out.symm 0 0 7 (by decide), turn_put (turn_put TJ.out _ _ GB.out) _ _ GB.out, src_put (src_put SJ.out _ _ ?_) _ _ ?_⟩
              all_goals (show b < g; have := GB.out; have := LQ.out; omega)
            case measure => simp [intOf]
          · have c0 : wr.cell? ⟨g, 2, none⟩ = some (.int .i64 _) := (PJ.out.cell LJ.out.symm 1 (by decide)).1
            have c1 : wr.cell? ⟨g, 3, none⟩ = some (.int .i64 _) := (PJ.out.cell LJ.out.symm 1 (by decide)).2
            have f0 := PJ.out.free LJ.out.symm 2
            have f1 := PJ.out.free LJ.out.symm 3
            go_wp2_with fail
            go_roundw
            case rel =>
              refine ⟨2, qs.set 1 (1, 7), by omega, by go_num, by rw [List.length_set]; exact LJ.out, PJ.out.store LJ.out.symm 1 1 7 (by decide), turn_put (turn_put TJ.out _ _ GB.out) _ _ GB.out, src_put (src_put SJ.out _ _ ?_) _ _ ?_⟩
              all_goals (show b < g; have := GB.out; have := LQ.out; omega)
            case measure => simp [intOf]
          · have c0 : wr.cell? ⟨g, 4, none⟩ = some (.int .i64 _) := (PJ.out.cell LJ.out.symm 2 (by decide)).1
            have c1 : wr.cell? ⟨g, 5, none⟩ = some (.int .i64 _) := (PJ.out.cell LJ.out.symm 2 (by decide)).2
            have f0 := PJ.out.free LJ.out.symm 4
            have f1 := PJ.out.free LJ.out.symm 5
            go_wp2_with fail
            go_roundw
            case rel =>
              refine ⟨3, qs.set 2 (2, 7), by omega, by go_num, by rw [List.length_set]; exact LJ.out, PJ.out.store LJ.out.symm 2 2 7 (by decide), turn_put (turn_put TJ.out _ _ GB.out) _ _ GB.out, src_put (src_put SJ.out _ _ ?_) _ _ ?_⟩
              all_goals (show b < g; have := GB.out; have := LQ.out; omega)
            case measure => simp [intOf]
          · have c0 : wr.cell? ⟨g, 6, none⟩ = some (.int .i64 _) := (PJ.out.cell LJ.out.symm 3 (by decide)).1
            have c1 : wr.cell? ⟨g, 7, none⟩ = some (.int .i64 _) := (PJ.out.cell LJ.out.symm 3 (by decide)).2
            have f0 := PJ.out.free LJ.out.symm 6
            have f1 := PJ.out.free LJ.out.symm 7
            go_wp2_with fail
            go_roundw
            case rel =>
              refine ⟨4, qs.set 3 (3, 7), by omega, by go_num, by rw [List.length_set]; exact LJ.out, PJ.out.store LJ.out.symm 3 3 7 (by decide), turn_put (turn_put TJ.out _ _ GB.out) _ _ GB.out, src_put (src_put SJ.out _ _ ?_) _ _ ?_⟩
              all_goals (show b < g; have := GB.out; have := LQ.out; omega)
            case measure => simp [intOf]
          · have c0 : wr.cell? ⟨g, 8, none⟩ = some (.int .i64 _) := (PJ.out.cell LJ.out.symm 4 (by decide)).1
            have c1 : wr.cell? ⟨g, 9, none⟩ = some (.int .i64 _) := (PJ.out.cell LJ.out.symm 4 (by decide)).2
            have f0 := PJ.out.free LJ.out.symm 8
            have f1 := PJ.out.free LJ.out.symm 9
            go_wp2_with fail
            go_roundw
            case rel =>
              refine ⟨5, qs.set 4 (4, 7), by omega, by go_num, by rw [List.length_set]; exact LJ.out, PJ.out.store LJ.out.symm 4 4 7 (by decide), turn_put (turn_put TJ.out _ _ GB.out) _ _ GB.out, src_put (src_put SJ.out _ _ ?_) _ _ ?_⟩
              all_goals (show b < g; have := GB.out; have := LQ.out; omega)
            case measure => simp [intOf]
          · go_wp2_with fail
            go_meet
            case rel => exact ⟨.inl ⟨_, PJ.out, LJ.out⟩, TJ.out, SJ.out⟩
      · have P4 : Hid (Prs 36 w4 W2.heap.size (.slice (some ⟨g, 0, none⟩) 8 yc) rs ∧ rs.length = 8) := ⟨hP, hl⟩
        clear hP hl L3 L4
        go_wp2_with fail
        go_loopw [7] (fun c wr => ∃ (j : Nat) (rs : List (Int × Int)), j ≤ 5 ∧ c = .int .i64 (j : Int) ∧ rs.length = 8 ∧ Prs 36 wr W2.heap.size (.slice (some ⟨g, 0, none⟩) 8 yc) rs ∧ Turn b W2 wr ∧ Src wr b (kB + 1) a len cap zs) (fun c _ => 5 - (intOf c).toNat)
        case atStart => exact ⟨0, rs, by omega, rfl, P4.out.2, P4.out.1, T4.out, S4.out⟩
        case round =>
          obtain ⟨j, qs, hj, rfl, hqs, hP, hT, hS⟩ := hrel
          have PJ : Hid (Prs 36 wr W2.heap.size (.slice (some ⟨g, 0, none⟩) 8 yc) qs) := hP
          have TJ : Hid (Turn b W2 wr) := hT
          have SJ : Hid (Src wr b (kB + 1) a len cap zs) := hS
          have LJ : Hid (qs.length = 8) := hqs
          have GB : Hid (W2.heap.size ≤ g) := (hP.lt g rfl).1
          clear hP hT hS hqs
          have e : j = 0 ∨ j = 1 ∨ j = 2 ∨ j = 3 ∨ j = 4 ∨ j = 5 := by omega
          clear hj
          rcases e with rfl | rfl | rfl | rfl | rfl | rfl
          · have c0 : wr.cell? ⟨g, 2, none⟩ = some (.int .i64 _) := (PJ.out.cell LJ.out.symm 1 (by decide)).1
            have c1 : wr.cell? ⟨g, 3, none⟩ = some (.int .i64 _) := (PJ.out.cell LJ.out.symm 1 (by decide)).2
            have f0 := PJ.out.free LJ.out.symm 2
            have f1 := PJ.out.free LJ.out.symm 3
            go_wp2_with fail
            go_roundw
            case rel =>
              refine ⟨1, qs.set 1 (0, 7), by omega, by go_num, by rw [List.length_set]; exact LJ.out, PJ.out.store LJ.out.symm 1 0 7 (by decide), turn_put (turn_put TJ.out _ _ GB.out) _ _ GB.out, src_put (src_put SJ.out _ _ ?_) _ _ ?_⟩
              all_goals (show b < g; have := GB.out; have := LQ.out; omega)
            case measure => simp [intOf]
          · have c0 : wr.cell? ⟨g, 4, none⟩ = some (.int .i64 _) := (PJ.out.cell LJ.out.symm 2 (by decide)).1
            have c1 : wr.cell? ⟨g, 5, none⟩ = some (.int .i64 _) := (PJ.out.cell LJ.out.symm 2 (by decide)).2
            have f0 := PJ.out.free LJ.out.symm 4
            have f1 := PJ.out.free LJ.out.symm 5
            go_wp2_with fail
            go_roundw
            case rel =>
              refine ⟨2, qs.set 2 (1, 7), by omega, by go_num, by rw [List.length_set]; exact LJ.out, PJ.out.store LJ.out.symm 2 1 7 (by decide), turn_put (turn_put TJ.out _ _ GB.out) _ _ GB.out, src_put (src_put SJ.out _ _ ?_) _ _ ?_⟩
              all_goals (show b < g; have := GB.out; have := LQ.out; omega)
            case measure => simp [intOf]
          · have c0 : wr.cell? ⟨g, 6, none⟩ = some (.int .i64 _) := (PJ.out.cell LJ.out.symm 3 (by decide)).1
            have c1 : wr.cell? ⟨g, 7, none⟩ = some (.int .i64 _) := (PJ.out.cell LJ.out.symm 3 (by decide)).2
            have f0 := PJ.out.free LJ.out.symm 6
            have f1 := PJ.out.free LJ.out.symm 7
            go_wp2_with fail
            go_roundw
            case rel =>
              refine ⟨3, qs.set 3 (2, 7), by omega, by go_num, by rw [List.length_set]; exact LJ.out, PJ.out.store LJ.out.symm 3 2 7 (by decide), turn_put (turn_put TJ.out _ _ GB.out) _ _ GB.out, src_put (src_put SJ.out _ _ ?_) _ _ ?_⟩
              all_goals (show b < g; have := GB.out; have := LQ.out; omega)
            case measure => simp [intOf]
          · have c0 : wr.cell? ⟨g, 8, none⟩ = some (.int .i64 _) := (PJ.out.cell LJ.out.symm 4 (by decide)).1
            have c1 : wr.cell? ⟨g, 9, none⟩ = some (.int .i64 _) := (PJ.out.cell LJ.out.symm 4 (by decide)).2
            have f0 := PJ.out.free LJ.out.symm 8
            have f1 := PJ.out.free LJ.out.symm 9
            go_wp2_with fail
            go_roundw
            case rel =>
              refine ⟨4, qs.set 4 (3, 7), by omega, by go_num, by rw [List.length_set]; exact LJ.out, PJ.out.store LJ.out.symm 4 3 7 (by decide), turn_put (turn_put TJ.out _ _ GB.out) _ _ GB.out, src_put (src_put SJ.out _ _ ?_) _ _ ?_⟩
              all_goals (show b < g; have := GB.out; have := LQ.out; omega)
            case measure => simp [intOf]
          · have c0 : wr.cell? ⟨g, 10, none⟩ = some (.int .i64 _) := (PJ.out.cell LJ.out.symm 5 (by decide)).1
            have c1 : wr.cell? ⟨g, 11, none⟩ = some (.int .i64 _) := (PJ.out.cell LJ.out.symm 5 (by decide)).2
            have f0 := PJ.out.free LJ.out.symm 10
            have f1 := PJ.out.free LJ.out.symm 11
            go_wp2_with fail
            go_roundw
            case rel =>
              refine ⟨5, qs.set 5 (4, 7), by omega, by go_num, by rw [List.length_set]; exact LJ.out, PJ.out.store LJ.out.symm 5 4 7 (by decide), turn_put (turn_put TJ.out _ _ GB.out) _ _ GB.out, src_put (src_put SJ.out _ _ ?_) _ _ ?_⟩
              all_goals (show b < g; have := GB.out; have := LQ.out; omega)
            case measure => simp [intOf]
          · go_wp2_with fail
            go_meet
            case rel => exact ⟨.inr ⟨_, _, _, _, rfl, PJ.out, LJ.out⟩, TJ.out, SJ.out⟩
    · go_wp2_with fail
      go_meet
      case rel => exact ⟨L4.out, T4.out, S4.out⟩
  case rest =>
    obtain ⟨hL, hT, hS⟩ := hcut
    have L5 : Hid (Drawn8 wc W2.heap.size vl) := hL
    have T5 : Hid (Turn b W2 wc) := hT
    have S5 : Hid (Src wc b (kB + 1) a len cap zs) := hS
    clear hL hT hS L3 T3 S3 L4 T4 S4
    have LC : Hid (W2.heap.size ≤ wc.heap.size) := T5.out.size
    have fn := spec_new 6 wc
    rw [show newC 6 = 0 from rfl, show newZ 6 = List.replicate 48 0 from rfl] at fn
    have hfm := field_memW
    go_wp2_with fail
    refine fn.mono ?_
    clear fn
    rintro e w6 ⟨v, rfl, n6, b6⟩
    have t6 : Turn b wc w6 := Turn.of_below b6
    obtain ⟨am, cm, rfl, l1, l2, hg⟩ := n6.shape
    obtain ⟨gm, rfl⟩ := hg (by simp)
    rw [List.length_replicate] at n6 l1 ⊢
    have M6 : Hid (Nums w6 wc.heap.size (.slice (some ⟨gm, 0, none⟩) 48 cm) (List.replicate 48 0)) := n6
    have T6 : Hid (Turn b wc w6) := t6
    have S6 : Hid (Src w6 b (kB + 1) a len cap zs) := S5.out.turn (Turn.of_below (b := wc.heap.size) b6) (Nat.le_refl _)
    have GM : Hid (wc.heap.size ≤ gm ∧ gm < w6.heap.size) := n6.lt gm rfl
    clear n6 hg t6 b6 l1 l2
    go_wp2_with fail
    refine (image_any S6.out (by have := KB.out; have := HK.out; omega) 40 (by omega) (by omega)).mono ?_
    rintro e w7 ⟨vi, xs, kC, rfl, n7, hxl, t7, s7, hkC⟩
    obtain ⟨ai, ci, rfl, l1, l2, hg⟩ := n7.shape
    have hx40 : xs.length = 40 := hxl
    rw [hx40] at n7 l1 hg ⊢
    obtain ⟨gi, rfl⟩ := hg (by omega)
    have I7 : Hid (Nums w7 w6.heap.size (.slice (some ⟨gi, 0, none⟩) 40 ci) xs) := n7
    have XL : Hid (xs.length = 40) := hx40
    have M7 : Hid (Nums w7 wc.heap.size (.slice (some ⟨gm, 0, none⟩) 48 cm) (List.replicate 48 0)) := M6.out.turn t7 (by have := LQ.out; have := LC.out; omega)
    have T7 : Hid (Turn b wc w7) := T6.out.trans t7
    have S7 : Hid (Src w7 b kC a len cap zs) := s7
    have KC : Hid (kC ≤ k + 2100) := by have := KB.out; show _ ≤ _; have e : (40 : Int).toNat = 40 := rfl; omega
    have GI : Hid (gm < gi) := by have h := (n7.lt gi rfl).1; have := GM.out; show _ < _; omega
    clear n7 hxl t7 s7 hkC hg l1 l2 hx40 M6 T6 S6
    go_wp2_with fail
    go_loopw [10] (fun c wr => ∃ (j : Nat) (ms : List Int), j ≤ 40 ∧ c = .int .i64 (j : Int) ∧ ms.length = 48 ∧ Nums wr wc.heap.size (.slice (some ⟨gm, 0, none⟩) 48 cm) ms ∧ Nums wr w6.heap.size (.slice (some ⟨gi, 0, none⟩) 40 ci) xs ∧ Turn b wc wr ∧ Src wr b kC a len cap zs) (fun c _ => 40 - (intOf c).toNat)
    case atStart => exact ⟨0, _, by omega, rfl, by simp, M7.out, I7.out, T7.out, S7.out⟩
    case round =>
      obtain ⟨j, ms, hj, rfl, hms, hM, hI, hT, hS⟩ := hrel
      have MJ : Hid (Nums wr wc.heap.size (.slice (some ⟨gm, 0, none⟩) 48 cm) ms) := hM
      have IJ : Hid (Nums wr w6.heap.size (.slice (some ⟨gi, 0, none⟩) 40 ci) xs) := hI
      have TJ : Hid (Turn b wc wr) := hT
      have SJ : Hid (Src wr b kC a len cap zs) := hS
      have LJ : Hid (ms.length = 48) := hms
      clear hM hI hT hS hms M7 I7 T7 S7
      by_cases hlt : j < 40
      · have hJ : (j : Int) < 40 := by omega
        have hJ2 : (j : Int) < 48 := by omega
        have HLT : Hid (j < 40) := hlt
        have ci := IJ.out.cell XL.out.symm j hlt
        have cj := MJ.out.cell LJ.out.symm j (by omega)
        have fj := MJ.out.free LJ.out.symm j
        generalize xs.getD j 0 = x at *
        clear hlt hj
        go_wp2_with fail
        go_roundw
        case rel =>
          refine ⟨j + 1, ms.set j x, by have := HLT.out; omega, by go_num, by rw [List.length_set]; exact LJ.out, (MJ.out.store j x).1, IJ.out.put _ _ (fun e => ?_), turn_put TJ.out _ _ GM.out.1, src_put SJ.out _ _ ?_⟩
          · have e : gi = gm := by simpa [Value.ownBlock] using e
            have := GI.out; omega
          · show b < gm; have := GM.out; have := LQ.out; have := LC.out; omega
        case measure => have := HLT.out; simp [intOf]; omega
      · have hJ : ¬ (j : Int) < 40 := by omega
        clear hlt hj IJ
        go_wp2_with fail
        refine (chance_any SJ.out (by have := KC.out; have := HK.out; omega) _).mono ?_
        rintro e w8 ⟨c8, rfl, t8, s8⟩
        have M8 : Hid (Nums w8 wc.heap.size (.slice (some ⟨gm, 0, none⟩) 48 cm) ms) := MJ.out.turn t8 (by have := LQ.out; have := LC.out; omega)
        have T8 : Hid (Turn b wc w8) := TJ.out.trans t8
        have S8 : Hid (Src w8 b (kC + 1) a len cap zs) := s8
        clear t8 s8 MJ TJ SJ
        go_upto_if 49 with fail
        go_cut [11] from 50 to 70 (fun c wx => ∃ (C : List Int) (ks : List Int) (kD : Nat), Hz wx W.heap.size a0 m0 k0 a1 m1 k1 a2 m2 k2 a3 m3 k3 { H with csr := C } ∧ Vb wx q #[.slice a0 m0 k0, .int .i64 H.pc, .slice a1 m1 k1, .bool H.halted, .bool H.waiting, .bool H.rung, .int .i64 H.done, .slice a2 m2 k2, .slice a3 m3 k3] 26 ∧ Vb wx R #[.slice none 0 0, .int .i64 0, .slice none 0 0, .bool false, .bool false, .bool false, .int .i64 0, .slice none 0 0, .slice none 0 0] 26 ∧ Drawn8 wx W2.heap.size vl ∧ ks.length = 48 ∧ Nums wx wc.heap.size (.slice (some ⟨gm, 0, none⟩) 48 cm) ks ∧ Turn b w wx ∧ Src wx b kD a len cap zs ∧ kD ≤ k + 2200)
        case first =>
          cases c8
          · go_wp2_with fail
            go_meet
            case rel =>
              have t : Turn b W2 w8 := T5.out.trans T8.out
              have hb1 := LQ.out
              exact ⟨H.csr, ms, kC + 1, H2.out.turn t (by omega), (turn_mq t).vb V2.out (by omega), (turn_mq t).vb R2.out (by have := BR.out; omega), L5.out.turn T8.out (by omega), LJ.out, M8.out, T2.out.trans t, S8.out, by have := KC.out; omega⟩
          · go_wp2_with fail
            go_loopw [11] (fun c wr => ∃ (i : Nat) (ms : List Int) (kD : Nat), i ≤ 8 ∧ c = .int .i64 (i : Int) ∧ ms.length = 48 ∧ Nums wr wc.heap.size (.slice (some ⟨gm, 0, none⟩) 48 cm) ms ∧ Turn b wc wr ∧ Src wr b kD a len cap zs ∧ kD ≤ kC + 1 + 2 * i) (fun c _ => 8 - (intOf c).toNat)
            case atStart => exact ⟨0, ms, kC + 1, by omega, rfl, LJ.out, M8.out, T8.out, S8.out, by omega⟩
            case round =>
              obtain ⟨i, ns, kD, hi, rfl, hns, hM, hT, hS, hkD⟩ := hrel
              have MJ : Hid (Nums wr wc.heap.size (.slice (some ⟨gm, 0, none⟩) 48 cm) ns) := hM
              have TJ : Hid (Turn b wc wr) := hT
              have SJ : Hid (Src wr b kD a len cap zs) := hS
              have LN : Hid (ns.length = 48 ∧ i ≤ 8 ∧ kD ≤ kC + 1 + 2 * i) := ⟨hns, hi, hkD⟩
              clear hM hT hS hns hkD M8 T8 S8
              by_cases hli : i < 8
              · have hI : (i : Int) < 8 := by omega
                have HLI : Hid (i < 8) := hli
                clear hli hi
                go_wp2_with fail
                refine (next_any SJ.out (by have := LN.out; have := KC.out; have := HK.out; omega) _).mono ?_
                rintro e w9 ⟨y1, rfl, hy1, -, t9, s9⟩
                obtain ⟨y10, y11⟩ := hy1 (by decide)
                go_wp2_with fail
                refine (next_any s9 (by have := LN.out; have := KC.out; have := HK.out; omega) _).mono ?_
                rintro e wA ⟨y2, rfl, hy2, -, tA, sA⟩
                obtain ⟨y20, y21⟩ := hy2 (by decide)
                have TA : Hid (Turn b wc wA) := (TJ.out.trans t9).trans tA
                have SA : Hid (Src wA b (kD + 1 + 1) a len cap zs) := sA
                have MA : Hid (Nums wA wc.heap.size (.slice (some ⟨gm, 0, none⟩) 48 cm) ns) := MJ.out.turn (t9.trans tA) (by have := LQ.out; have := LC.out; omega)
                have cj := MA.out.cell LN.out.1.symm (8 + i) (by have := HLI.out; omega)
                have fj := MA.out.free LN.out.1.symm (8 + i)
                have hI8 : (8 : Int) + (i : Int) < 48 := by omega
                clear t9 s9 tA sA hy1 hy2
                go_wp2_with fail
                go_roundw
                case rel =>
                  refine ⟨i + 1, ns.set (8 + i) (8 * y1 + y2), kD + 1 + 1, by have := HLI.out; omega, by go_num, by rw [List.length_set]; exact LN.out.1, (MA.out.store (8 + i) (8 * y1 + y2)).1, turn_put TA.out _ _ GM.out.1, src_put SA.out _ _ ?_, by have := LN.out; omega⟩
                  show b < gm; have := GM.out; have := LQ.out; have := LC.out; omega
                case measure => have := HLI.out; simp [intOf]; omega
              · have hI : ¬ (i : Int) < 8 := by omega
                clear hli hi
                have t : Turn b W2 wr := T5.out.trans TJ.out
                have hb1 := LQ.out
                have HJ : Hid (Hz wr W.heap.size a0 m0 k0 a1 m1 k1 a2 m2 k2 a3 m3 k3 H) := H2.out.turn t (by omega)
                have VJ : Hid (Vb wr q #[.slice a0 m0 k0, .int .i64 H.pc, .slice a1 m1 k1, .bool H.halted, .bool H.waiting, .bool H.rung, .int .i64 H.done, .slice a2 m2 k2, .slice a3 m3 k3] 26) := (turn_mq t).vb V2.out (by omega)
                have RJ : Hid (Vb wr R #[.slice none 0 0, .int .i64 0, .slice none 0 0, .bool false, .bool false, .bool false, .int .i64 0, .slice none 0 0, .slice none 0 0] 26) := (turn_mq t).vb R2.out (by have := BR.out; omega)
                have LL : Hid (Drawn8 wr W2.heap.size vl) := L5.out.turn TJ.out (by omega)
                have TT : Hid (Turn b w wr) := T2.out.trans t
                have LS : Hid (W2.heap.size ≤ wr.heap.size) := t.size
                clear t hb1
                have v2 := VJ.out.cell 2 rfl
                by_cases h11 : m1 = 11
                · obtain ⟨y, ey, yb, yl, ⟨z, cy⟩, fy, hk11, hz⟩ := HJ.out.store h11
                  subst ey h11
                  have HS : Hid (Hz (wr.setCell ⟨y, 10, none⟩ (.int .i64 2)) W.heap.size a0 m0 k0 (some ⟨y, 0, none⟩) 11 k1 a2 m2 k2 a3 m3 k3 { H with csr := H.csr.set 10 2 }) := hz
                  clear hz
                  have YB : Hid (W.heap.size ≤ y ∧ y < wr.heap.size) := ⟨yb, yl⟩
                  have YQ : Hid (y < q) := H0.out y rfl rfl
                  clear yb yl
                  go_wp2_with fail
                  go_meet
                  case rel =>
                    have pm := put_mq wr y 10 (.int .i64 2)
                    have hb1 := LQ.out
                    have hy1 := YB.out
                    have hlc := LC.out
                    have hls := LS.out
                    have hyq : y < q := YQ.out
                    exact ⟨_, ns, kD, HS.out, pm.vb VJ.out (by omega), pm.vb RJ.out (by have := BR.out; have := LW.out; omega), LL.out.mq pm (fun k e1 e2 e => by omega), LN.out.1, pm.nums MJ.out (fun k e f => by have := (MJ.out.lt k e).1; omega), turn_put TT.out _ _ (by show w.heap.size ≤ y; have := HR.out; have := LW.out; omega), src_put SJ.out _ _ (by show b < y; omega), by have := KC.out; have := LN.out; omega⟩
                · have h11 : ¬ (m1 : Int) = 11 := by omega
                  go_wp2_with fail
                  go_meet
                  case rel => exact ⟨H.csr, ns, kD, HJ.out, VJ.out, RJ.out, LL.out, LN.out.1, MJ.out, TT.out, SJ.out, by have := KC.out; have := LN.out; omega⟩
        case rest =>
          obtain ⟨C, ks, kD, hH, hV, hR', hL, hks, hM, hT, hS, hkD⟩ := hcut
          clear M8 T8 S8
          rename World => wd
          have HD : Hid (Hz wd W.heap.size a0 m0 k0 a1 m1 k1 a2 m2 k2 a3 m3 k3 { H with csr := C }) := hH
          have VD : Hid (Vb wd q #[.slice a0 m0 k0, .int .i64 H.pc, .slice a1 m1 k1, .bool H.halted, .bool H.waiting, .bool H.rung, .int .i64 H.done, .slice a2 m2 k2, .slice a3 m3 k3] 26) := hV
          have RD : Hid (Vb wd R #[.slice none 0 0, .int .i64 0, .slice none 0 0, .bool false, .bool false, .bool false, .int .i64 0, .slice none 0 0, .slice none 0 0] 26) := hR'
          have LD : Hid (Drawn8 wd W2.heap.size vl) := hL
          have MD : Hid (Nums wd wc.heap.size (.slice (some ⟨gm, 0, none⟩) 48 cm) ks) := hM
          have KL : Hid (ks.length = 48) := hks
          have TD : Hid (Turn b w wd) := hT
          have SD : Hid (Src wd b kD a len cap zs) := hS
          have KD : Hid (kD ≤ k + 2200) := hkD
          clear hH hV hR' hL hM hks hT hS hkD
          go_wp2_with fail
          refine (chance_any SD.out (by have := KD.out; have := HK.out; omega) _).mono ?_
          rintro e wE ⟨c9, rfl, t9, s9⟩
          have hb1 := LQ.out
          have HE : Hid (Hz wE W.heap.size a0 m0 k0 a1 m1 k1 a2 m2 k2 a3 m3 k3 { H with csr := C }) := HD.out.turn t9 (by omega)
          have VE : Hid (Vb wE q #[.slice a0 m0 k0, .int .i64 H.pc, .slice a1 m1 k1, .bool H.halted, .bool H.waiting, .bool H.rung, .int .i64 H.done, .slice a2 m2 k2, .slice a3 m3 k3] 26) := (turn_mq t9).vb VD.out (by omega)
          have RE : Hid (Vb wE R #[.slice none 0 0, .int .i64 0, .slice none 0 0, .bool false, .bool false, .bool false, .int .i64 0, .slice none 0 0, .slice none 0 0] 26) := (turn_mq t9).vb RD.out (by have := BR.out; omega)
          have LE : Hid (Drawn8 wE W2.heap.size vl) := LD.out.turn t9 (by omega)
          have ME : Hid (Nums wE wc.heap.size (.slice (some ⟨gm, 0, none⟩) 48 cm) ks) := MD.out.turn t9 (by have := LC.out; omega)
          have TE : Hid (Turn b w wE) := TD.out.trans t9
          have SE : Hid (Src wE b (kD + 1) a len cap zs) := s9
          clear t9 s9 HD VD RD LD MD TD SD
          clear hb1
          cases c9
          · skip
            have l0 := VE.out.cell 0 rfl
            have r0 := RE.out.cell 0 rfl
            have f0 := RE.out.free 0
            have l1 := VE.out.cell 1 rfl
            have r1 := RE.out.cell 1 rfl
            have f1 := RE.out.free 1
            have l2 := VE.out.cell 2 rfl
            have r2 := RE.out.cell 2 rfl
            have f2 := RE.out.free 2
            have l3 := VE.out.cell 3 rfl
            have r3 := RE.out.cell 3 rfl
            have f3 := RE.out.free 3
            have l4 := VE.out.cell 4 rfl
            have r4 := RE.out.cell 4 rfl
            have f4 := RE.out.free 4
            have l5 := VE.out.cell 5 rfl
            have r5 := RE.out.cell 5 rfl
            have f5 := RE.out.free 5
            have l6 := VE.out.cell 6 rfl
            have r6 := RE.out.cell 6 rfl
            have f6 := RE.out.free 6
            have l7 := VE.out.cell 7 rfl
            have r7 := RE.out.cell 7 rfl
            have f7 := RE.out.free 7
            have l8 := VE.out.cell 8 rfl
            have r8 := RE.out.cell 8 rfl
            have f8 := RE.out.free 8
            have NN : Hid (_ ∧ _) := nine RE.out (.slice a0 m0 k0) (.int .i64 H.pc) (.slice a1 m1 k1) (.bool H.halted) (.bool H.waiting) (.bool H.rung) (.int .i64 H.done) (.slice a2 m2 k2) (.slice a3 m3 k3)
            go_wp2_with fail
            clear l0 r0 f0 l1 r1 f1 l2 r2 f2 l3 r3 f3 l4 r4 f4 l5 r5 f5 l6 r6 f6 l7 r7 f7 l8 r8 f8
            generalize (((((((((wE.setCell ⟨R, 0, none⟩ (.slice a0 m0 k0)).setCell ⟨R, 1, none⟩ (.int .i64 H.pc)).setCell ⟨R, 2, none⟩ (.slice a1 m1 k1)).setCell ⟨R, 3, none⟩ (.bool H.halted)).setCell ⟨R, 4, none⟩ (.bool H.waiting)).setCell ⟨R, 5, none⟩ (.bool H.rung)).setCell ⟨R, 6, none⟩ (.int .i64 H.done)).setCell ⟨R, 7, none⟩ (.slice a2 m2 k2)).setCell ⟨R, 8, none⟩ (.slice a3 m3 k3)) = V at *
            have x0 := NN.out.1.cell 0 rfl
            have x1 := NN.out.1.cell 1 rfl
            have x2 := NN.out.1.cell 2 rfl
            have x3 := NN.out.1.cell 3 rfl
            have x4 := NN.out.1.cell 4 rfl
            have x5 := NN.out.1.cell 5 rfl
            have x6 := NN.out.1.cell 6 rfl
            have x7 := NN.out.1.cell 7 rfl
            have x8 := NN.out.1.cell 8 rfl
            have hb1 := LQ.out
            have hlc := LC.out
            have hbr := BR.out
            have hrr := HR.out
            have hlw := LW.out
            have hts := TE.out.size
            exact bodyPost_ret (v := .tuple #[.agg #[.slice a0 m0 k0, .int .i64 H.pc, .slice a1 m1 k1, .bool H.halted, .bool H.waiting, .bool H.rung, .int .i64 H.done, .slice a2 m2 k2, .slice a3 m3 k3], vl, .slice (some ⟨gm, 0, none⟩) 48 cm]) (by simp [results, Tryz.results24, go_sem, x0, x1, x2, x3, x4, x5, x6, x7, x8]) rfl
              ⟨_, _, _, _, _, _, _, _, _, _, _, _, { H with csr := C }, _, _, rfl, (HE.out.mq NN.out.2 (fun k e1 e2 e => by omega)).mono (by omega), (LE.out.mq NN.out.2 (fun k e1 e2 e => by omega)).mono (by omega), .inl ⟨ks, (NN.out.2.nums ME.out (fun k e f => by have := (ME.out.lt k e).1; omega)).mono (by omega), by have := KL.out; omega⟩, ⟨NN.out.2.os.trans TE.out.os, NN.out.2.tape.trans TE.out.tape, NN.out.2.output.trans TE.out.output, Nat.le_trans TE.out.size NN.out.2.size, fun x hx hn => (NN.out.2.block x (Nat.lt_of_lt_of_le hx TE.out.size) (by omega)).trans (TE.out.block x hx hn)⟩, _, by have := KD.out; have := HK.out; omega, src_mq SE.out NN.out.2 (by omega)⟩
          · go_wp2_with fail
            refine (mem_any SE.out (by have := KD.out; have := HK.out; omega)).mono ?_
            rintro e wF ⟨vm, kF, rfl, dm, hkF, tF, sF⟩
            have hb1 := LQ.out
            have HF : Hid (Hz wF W.heap.size a0 m0 k0 a1 m1 k1 a2 m2 k2 a3 m3 k3 { H with csr := C }) := HE.out.turn tF (by omega)
            have VF : Hid (Vb wF q #[.slice a0 m0 k0, .int .i64 H.pc, .slice a1 m1 k1, .bool H.halted, .bool H.waiting, .bool H.rung, .int .i64 H.done, .slice a2 m2 k2, .slice a3 m3 k3] 26) := (turn_mq tF).vb VE.out (by omega)
            have RF : Hid (Vb wF R #[.slice none 0 0, .int .i64 0, .slice none 0 0, .bool false, .bool false, .bool false, .int .i64 0, .slice none 0 0, .slice none 0 0] 26) := (turn_mq tF).vb RE.out (by have := BR.out; omega)
            have LF : Hid (Drawn8 wF W2.heap.size vl) := LE.out.turn tF (by omega)
            have MF : Hid (DrawnM wF wE.heap.size vm) := dm
            have TF : Hid (Turn b w wF) := TE.out.trans tF
            have SF : Hid (Src wF b kF a len cap zs) := sF
            have KF : Hid (kF ≤ k + 4000) := by have := KD.out; show _ ≤ _; omega
            have TE_size : Hid (w.heap.size ≤ wE.heap.size ∧ W.heap.size ≤ wE.heap.size) := ⟨TE.out.size, by have := TW.out.size; have := VE.out.lt; omega⟩
            clear dm hkF tF sF HE VE RE LE ME TE SE hb1
            have l0 := VF.out.cell 0 rfl
            have r0 := RF.out.cell 0 rfl
            have f0 := RF.out.free 0
            have l1 := VF.out.cell 1 rfl
            have r1 := RF.out.cell 1 rfl
            have f1 := RF.out.free 1
            have l2 := VF.out.cell 2 rfl
            have r2 := RF.out.cell 2 rfl
            have f2 := RF.out.free 2
            have l3 := VF.out.cell 3 rfl
            have r3 := RF.out.cell 3 rfl
            have f3 := RF.out.free 3
            have l4 := VF.out.cell 4 rfl
            have r4 := RF.out.cell 4 rfl
            have f4 := RF.out.free 4
            have l5 := VF.out.cell 5 rfl
            have r5 := RF.out.cell 5 rfl
            have f5 := RF.out.free 5
            have l6 := VF.out.cell 6 rfl
            have r6 := RF.out.cell 6 rfl
            have f6 := RF.out.free 6
            have l7 := VF.out.cell 7 rfl
            have r7 := RF.out.cell 7 rfl
            have f7 := RF.out.free 7
            have l8 := VF.out.cell 8 rfl
            have r8 := RF.out.cell 8 rfl
            have f8 := RF.out.free 8
            have NN : Hid (_ ∧ _) := nine RF.out (.slice a0 m0 k0) (.int .i64 H.pc) (.slice a1 m1 k1) (.bool H.halted) (.bool H.waiting) (.bool H.rung) (.int .i64 H.done) (.slice a2 m2 k2) (.slice a3 m3 k3)
            go_wp2_with fail
            clear l0 r0 f0 l1 r1 f1 l2 r2 f2 l3 r3 f3 l4 r4 f4 l5 r5 f5 l6 r6 f6 l7 r7 f7 l8 r8 f8
            generalize (((((((((wF.setCell ⟨R, 0, none⟩ (.slice a0 m0 k0)).setCell ⟨R, 1, none⟩ (.int .i64 H.pc)).setCell ⟨R, 2, none⟩ (.slice a1 m1 k1)).setCell ⟨R, 3, none⟩ (.bool H.halted)).setCell ⟨R, 4, none⟩ (.bool H.waiting)).setCell ⟨R, 5, none⟩ (.bool H.rung)).setCell ⟨R, 6, none⟩ (.int .i64 H.done)).setCell ⟨R, 7, none⟩ (.slice a2 m2 k2)).setCell ⟨R, 8, none⟩ (.slice a3 m3 k3)) = V at *
            have x0 := NN.out.1.cell 0 rfl
            have x1 := NN.out.1.cell 1 rfl
            have x2 := NN.out.1.cell 2 rfl
            have x3 := NN.out.1.cell 3 rfl
            have x4 := NN.out.1.cell 4 rfl
            have x5 := NN.out.1.cell 5 rfl
            have x6 := NN.out.1.cell 6 rfl
            have x7 := NN.out.1.cell 7 rfl
            have x8 := NN.out.1.cell 8 rfl
            have hb1 := LQ.out
            have hlc := LC.out
            have hbr := BR.out
            have hrr := HR.out
            have hlw := LW.out
            have hts := TF.out.size
            exact bodyPost_ret (v := .tuple #[.agg #[.slice a0 m0 k0, .int .i64 H.pc, .slice a1 m1 k1, .bool H.halted, .bool H.waiting, .bool H.rung, .int .i64 H.done, .slice a2 m2 k2, .slice a3 m3 k3], vl, vm]) (by simp [results, Tryz.results24, go_sem, x0, x1, x2, x3, x4, x5, x6, x7, x8]) rfl
              ⟨_, _, _, _, _, _, _, _, _, _, _, _, { H with csr := C }, _, _, rfl, (HF.out.mq NN.out.2 (fun k e1 e2 e => by omega)).mono (by omega), (LF.out.mq NN.out.2 (fun k e1 e2 e => by omega)).mono (by omega), drawnM_mq MF.out NN.out.2 (by have := TE_size.out; omega) (by have := TE_size.out; omega), ⟨NN.out.2.os.trans TF.out.os, NN.out.2.tape.trans TF.out.tape, NN.out.2.output.trans TF.out.output, Nat.le_trans TF.out.size NN.out.2.size, fun x hx hn => (NN.out.2.block x (Nat.lt_of_lt_of_le hx TF.out.size) (by omega)).trans (TF.out.block x hx hn)⟩, _, by have := KF.out; have := HK.out; omega, src_mq SF.out NN.out.2 (by omega)⟩
theorem to_S {P : Program} {fn : Func} {R : Ending → World → Prop} {R' : Ending → FrameMode → World → Prop} {c₀ : Frame} {cs cs' : List Frame} {u : FrameMode} (hc : cs' = { c₀ with mode := u } :: cs) (hR : ∀ e w, R e w → R' e u w) (e : Exit) (a : Act) (w : World) (h : bodyPost P fn R e a w) : bodyPostS P fn c₀ cs R' e a cs' w := by
  cases e with
  | normal => obtain ⟨h1, v, h2, h3⟩ := h; exact ⟨h1, u, hc, v, h2, hR _ _ h3⟩
  | ret => obtain ⟨h1, v, h2, h3⟩ := h; exact ⟨h1, u, hc, v, h2, hR _ _ h3⟩
  | panic ch => obtain ⟨h1, h3⟩ := h; exact ⟨h1, u, hc, hR _ _ h3⟩
  | outgrown => exact ⟨u, hR _ _ h⟩
  | exit id => exact h
  | goto l => exact h
set_option maxRecDepth 20000 in
set_option maxHeartbeats 2000000 in
theorem c_idle (b : Nat) (w : World) : CallsD Tryz.prog 71 #[.pointer (some ⟨b, 0, none⟩)] .returning w fun e u' w' => e = .returned (.tuple #[]) ∧ u' = .returning ∧ w' = w := by
  have hn : ∀ w, (binOp .eql 20 .nilIface .nilIface).run Tryz.prog w = .ok (.bool true) w := fun w => by kernel_rfl
  refine callsD_of_wpS Tryz.func71 rfl fun c₀ cs hu => ?_
  apply wpS_seq
  generalize hC : Code.block 0 _ = C
  apply wpS_region
  simp [wpOpsS, go_sem, recoverD, hu, Tryz.ntmps71, Exit.thenS]
  rw [← hC]
  clear hC
  refine wpS_of_wp (Code.wp_mono (to_S (R := fun e w' => e = .returned (.tuple #[]) ∧ w' = w) (u := .returning) (by rw [← hu]) (fun e w h => ⟨h.1, rfl, h.2⟩)) ?_)
  clear hu
  have hT : (#[Value.pointer (some ⟨b, 0, none⟩)] ++ (Array.replicate 22 undef).setIfInBounds 3 (.nilIface)) = #[.pointer (some ⟨b, 0, none⟩), undef, undef, undef, .nilIface, undef, undef, undef, undef, undef, undef, undef, undef, undef, undef, undef, undef, undef, undef, undef, undef, undef, undef] := by simp [Array.replicate]
  rw [hT]
  clear hT
  go_wp2_with fail
  go_end0
  exact ⟨rfl, rfl⟩
theorem mq_cell {S : Nat → Prop} {w w' : World} {k j : Nat} {v : Value} (m : Mq S w w') (h : w.cell? ⟨k, j, none⟩ = some v) (hn : ¬ S k) : w'.cell? ⟨k, j, none⟩ = some v := by
  have hk := block_of_cell h
  unfold World.cell? at h ⊢
  rw [m.block k hk hn]
  exact h
set_option maxRecDepth 20000 in
set_option maxHeartbeats 4000000 in
theorem c_panic {w : World} {base q : Nat} {i o : Value} {pg pc : Nat} {ps : List (Int × Int)} {g p : Nat} {zs : List Int} {X : Nat → Prop} {H : Ht} {ca ri : Int} (R : Rw w base q i o pg pc ps g p zs H ca ri X) (b : Nat) (hb : w.cell? ⟨b, 0, none⟩ = some (.pointer (some ⟨q, 0, none⟩))) (hbq : b ≠ q) (c t : Int) (h0 : 0 ≤ c) (h31 : c ≤ 31) (ht : isW t = true) :
    CallsD Tryz.prog 71 #[.pointer (some ⟨b, 0, none⟩)] (.panicking [{ v := .iface 116 (.agg #[.int .i64 c, .int .i64 t]), recovered := false }]) w fun e u' w' => e = .returned (.tuple #[]) ∧ u' = .panicking [{ v := .iface 116 (.agg #[.int .i64 c, .int .i64 t]), recovered := true }] ∧ Rw w' base q i o pg pc ps g p zs (trapV H c t) c ri X ∧ Below base w w' := by
  have hn : ∀ w, (binOp .eql 20 (.iface 116 (.agg #[.int .i64 c, .int .i64 t])) .nilIface).run Tryz.prog w = .ok (.bool false) w := fun w => by kernel_rfl
  have ha : ∀ w, (Instr.typeAssert (.iface 116 (.agg #[.int .i64 c, .int .i64 t])) 20 116 true).run Tryz.prog w = .ok (.tuple #[.agg #[.int .i64 c, .int .i64 t], .bool true]) w := fun w => by kernel_rfl
  have HR : Hid (Rw w base q i o pg pc ps g p zs H ca ri X) := R
  have HT : Hid (0 ≤ c ∧ c ≤ 31 ∧ isW t = true) := ⟨h0, h31, ht⟩
  have HB : Hid (w.cell? ⟨b, 0, none⟩ = some (.pointer (some ⟨q, 0, none⟩)) ∧ b ≠ q) := ⟨hb, hbq⟩
  clear R h0 h31 ht hb hbq
  refine callsD_of_wpS Tryz.func71 rfl fun c₀ cs hu => ?_
  apply wpS_seq
  generalize hC : Code.block 0 _ = C
  apply wpS_region
  simp [wpOpsS, go_sem, recoverD, hu, Tryz.ntmps71, Exit.thenS]
  rw [← hC]
  clear hC
  refine wpS_of_wp (Code.wp_mono (to_S (R := fun e w' => e = .returned (.tuple #[]) ∧ Rw w' base q i o pg pc ps g p zs (trapV H c t) c ri X ∧ Below base w w') (u := .panicking [{ v := .iface 116 (.agg #[.int .i64 c, .int .i64 t]), recovered := true }]) rfl (fun e w h => ⟨h.1, rfl, h.2⟩)) ?_)
  clear hu
  have hT : (#[Value.pointer (some ⟨b, 0, none⟩)] ++ (Array.replicate 22 undef).setIfInBounds 3 (.iface 116 (.agg #[.int .i64 c, .int .i64 t]))) = #[.pointer (some ⟨b, 0, none⟩), undef, undef, undef, .iface 116 (.agg #[.int .i64 c, .int .i64 t]), undef, undef, undef, undef, undef, undef, undef, undef, undef, undef, undef, undef, undef, undef, undef, undef, undef, undef] := by simp [Array.replicate]
  rw [hT]
  clear hT
  go_upto_region 7 with fail
  clear hn ha
  generalize hW : w.alloc (.cells #[.int .i64 c, .int .i64 t] 116) = W1
  obtain ⟨n, hn⟩ : ∃ n, w.heap.size = n := ⟨_, rfl⟩
  rw [hn]
  have VN : Hid (Vb W1 n #[.int .i64 c, .int .i64 t] 116) := by show Vb _ _ _ _; rw [← hW, ← hn]; exact Vb.new _ _ _
  have bb : Below w.heap.size w W1 := by rw [← hW]; exact al (Below.refl _ _) _
  have R1 : Hid (Rw W1 base q i o pg pc ps g p zs H ca ri X) := HR.out.keep bb
  have B1 : Hid (Below base w W1) := bless bb HR.out.size
  have CB : Hid (W1.cell? ⟨b, 0, none⟩ = some (.pointer (some ⟨q, 0, none⟩))) := cell_keep bb HB.out.1
  have NQ : Hid (n ≠ q ∧ n ≠ b) := ⟨by have := HR.out.v.lt; omega, by have h2 : b < w.heap.size := block_of_cell HB.out.1; omega⟩
  clear hW hn bb
  have S0 : Hid (Vb W1.drew n #[.int .i64 c, .int .i64 t] 116 ∧ W1.drew.cell? ⟨b, 0, none⟩ = some (.pointer (some ⟨q, 0, none⟩))) := ⟨VN.out, CB.out⟩
  have R0 : Hid (Rw W1.drew base q i o pg pc ps g p zs H ca ri X) := R1.out.keep (Below.refl _ _).drew
  have B0 : Hid (Below base w W1.drew) := B1.out.drew
  refine wp_region_held (S := fun w' => Vb w' n #[.int .i64 c, .int .i64 t] 116 ∧ w'.cell? ⟨b, 0, none⟩ = some (.pointer (some ⟨q, 0, none⟩))) (by kernel_rfl) ?_
  change wpAnyH _ _ _ _ _ _ _ _ (World.drew _)
  generalize W1.drew = x0 at *
  refine wpTk (i := 0) (v := .pointer (some ⟨q, 0, none⟩)) rfl (Or.inl ⟨by rfl, fun w' hs => by have hc := hs.2; go_simp⟩) S0.out ?_
  change wpAnyH _ _ _ _ _ _ _ (Act.put _ (some 10) _) _
  simp only [Act.put, zT, zZ, zS]
  refine wpTk (i := 1) (v := .pointer (some ⟨q, 0, none⟩)) rfl (Or.inl ⟨by rfl, fun w' hs => by go_simp⟩) S0.out ?_
  change wpAnyH _ _ _ _ _ _ _ (Act.put _ (some 11) _) _
  simp only [Act.put, zT, zZ, zS]
  refine wpTk (i := 2) (v := .pointer (some ⟨q, 0, none⟩)) rfl (Or.inl ⟨by rfl, fun w' hs => by go_simp⟩) S0.out ?_
  change wpAnyH _ _ _ _ _ _ _ (Act.put _ (some 12) _) _
  simp only [Act.put, zT, zZ, zS]
  refine wpTk (i := 3) (v := .pointer (some ⟨n, 0, none⟩)) rfl (Or.inl ⟨by rfl, fun w' hs => by go_simp⟩) S0.out ?_
  change wpAnyH _ _ _ _ _ _ _ (Act.put _ (some 13) _) _
  simp only [Act.put, zT, zZ, zS]
  refine wpTk (i := 4) (v := .int .i64 c) rfl (Or.inl ⟨by rfl, fun w' hs => by have hc := (hs.1.cell 0 rfl : w'.cell? ⟨n, 0, none⟩ = some (.int .i64 c)); go_simp⟩) S0.out ?_
  change wpAnyH _ _ _ _ _ _ _ (Act.put _ (some 14) _) _
  simp only [Act.put, zT, zZ, zS]
  refine wpTk (i := 5) (v := .pointer (some ⟨n, 1, none⟩)) rfl (Or.inl ⟨by rfl, fun w' hs => by go_simp⟩) S0.out ?_
  change wpAnyH _ _ _ _ _ _ _ (Act.put _ (some 15) _) _
  simp only [Act.put, zT, zZ, zS]
  refine wpTk (i := 6) (v := .int .i64 t) rfl (Or.inl ⟨by rfl, fun w' hs => by have hc := (hs.1.cell 1 rfl : w'.cell? ⟨n, 1, none⟩ = some (.int .i64 t)); go_simp⟩) S0.out ?_
  change wpAnyH _ _ _ _ _ _ _ (Act.put _ (some 16) _) _
  simp only [Act.put, zT, zZ, zS]
  refine zR 7 rfl fun K hK => ?_
  rw [if_pos (by rfl)]
  go_simp
  have s := stand_parts.1 HR.out.sn.hok.st
  refine (r_trap q i o _ _ ca ri H c t x0 R0.out.v HR.out.sn.hok.c11 (all_at HR.out.sn.hok.cw 0).1 s.1).mono ?_
  clear s
  rintro e x1 ⟨rfl, v2, m2⟩
  have U : Hid (Rw x1 base q i o pg pc ps g p zs (trapV H c t) ca ri X ∧ Below base x0 x1) := R0.out.upd v2 m2 rfl rfl (trapV_hok HR.out.sn.hok c t HT.out.1 HT.out.2.1 HT.out.2.2)
  have S1 : Hid (Vb x1 n #[.int .i64 c, .int .i64 t] 116 ∧ x1.cell? ⟨b, 0, none⟩ = some (.pointer (some ⟨q, 0, none⟩))) := ⟨m2.vb S0.out.1 fun e => NQ.out.1 e, mq_cell m2 S0.out.2 HB.out.2⟩
  clear v2 m2
  refine hK.out _ _ S1.out (fun _ => ?_)
  clear hK K
  refine wpAnyH_done (by kernel_rfl) ?_ _
  have c36 := U.out.1.v.cell 36 rfl
  have f36 := U.out.1.v.free 36
  have n0 := S1.out.1.cell 0 rfl
  have cb := S1.out.2
  have V2 := U.out.1.v.set 36 (.int .i64 c)
  have U2 : Hid (Rw (x1.setCell ⟨q, 36, none⟩ (.int .i64 c)) base q i o pg pc ps g p zs (trapV H c t) c ri X ∧ Below base x1 (x1.setCell ⟨q, 36, none⟩ (.int .i64 c))) := U.out.1.upd (G := trapV H c t) (ca' := c) (ri' := ri) V2 ((Mq.refl _ _).set ⟨q, 36, none⟩ _ rfl) rfl rfl U.out.1.sn.hok
  clear V2
  go_wp2_with fail
  go_end0
  exact ⟨rfl, U2.out.1, B0.out.trans (U.out.2.trans U2.out.2)⟩
end Go.Proofs.YtaefollmeoepkaaGreatDoor
