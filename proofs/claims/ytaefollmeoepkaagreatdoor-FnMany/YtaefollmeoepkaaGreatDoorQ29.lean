/- Texts of this seat, joined. -/
import Derived.Test.YtaefollmeoepkaaGreatDoorQ13
import Derived.Test.YtaefollmeoepkaaGreatDoorQ17
import Derived.Test.YtaefollmeoepkaaGreatDoorQ18
import Derived.Test.YtaefollmeoepkaaGreatDoorQ19
import Derived.Test.YtaefollmeoepkaaGreatDoorQ21
import Derived.Test.YtaefollmeoepkaaGreatDoorQ22
import Derived.Test.YtaefollmeoepkaaGreatDoorQ28
namespace Go.Proofs.YtaefollmeoepkaaGreatDoor
open Go.RowKit
set_option linter.unusedVariables false
set_option maxRecDepth 20000 in
set_option maxHeartbeats 4000000 in
theorem i_fault15 (a0 : Option Addr) (k0 : Nat) (a1 : Option Addr) (m1 k1 : Nat) (a2 : Option Addr) (m2 k2 : Nat) (a3 : Option Addr) (m3 k3 : Nat) (H : Ht) (w : World) :
    Calls Tryz.prog 10 #[.agg #[.slice a0 15 k0, .int .i64 H.pc, .slice a1 m1 k1, .bool H.halted, .bool H.waiting, .bool H.rung, .int .i64 H.done, .slice a2 m2 k2, .slice a3 m3 k3]] w fun e w' => e = .returned (.int .i64 1) ∧ Below w.heap.size w w' := by
  have B1 : Hid (Below w.heap.size w (w.alloc (.cells #[.slice a0 15 k0, .int .i64 H.pc, .slice a1 m1 k1, .bool H.halted, .bool H.waiting, .bool H.rung, .int .i64 H.done, .slice a2 m2 k2, .slice a3 m3 k3] 26))) := al (Below.refl _ _) _
  go_enter Tryz.func10, Tryz.ntmps10
  go_wp2_with fail
  go_ret
  exact ⟨rfl, by first | exact B1.out | exact al B1.out _⟩
set_option maxRecDepth 20000 in
set_option maxHeartbeats 4000000 in
theorem s_fault15 (q : Nat) (a0 : Option Addr) (k0 : Nat) (a1 : Option Addr) (m1 k1 : Nat) (a2 : Option Addr) (m2 k2 : Nat) (a3 : Option Addr) (m3 k3 : Nat) (H : Ht) (w : World) (hv : Vb w q #[.slice a0 15 k0, .int .i64 H.pc, .slice a1 m1 k1, .bool H.halted, .bool H.waiting, .bool H.rung, .int .i64 H.done, .slice a2 m2 k2, .slice a3 m3 k3] 26) :
    Calls Tryz.prog 54 #[.pointer (some ⟨q, 0, none⟩)] w fun e w' => e = .returned (.int .i64 1) ∧ Below w.heap.size w w' := by
  have v0 := hv.cell 0 rfl
  clear hv
  go_enter Tryz.func54, Tryz.ntmps54
  go_wp2_with fail
  go_ret
  exact ⟨rfl, Below.refl _ _⟩
theorem cell_g {w w' : World} {row : Option Nat} {p : Addr} {v : Value} (g : w.grownBy w' row) (h : w.cell? p = some v) (hne : some p.block ≠ row) : w'.cell? p = some v := cell_grown g h hne
theorem Nums.turn {w w' : World} {base b : Nat} {v : Value} {zs : List Int} (h : Nums w base v zs) (t : Turn b w w') (hb : b < base) : Nums w' base v zs := by
  refine h.kept (row := some b) ⟨t.os, t.tape, t.output, t.size, fun k hk hn => t.block k hk (fun e => hn (by rw [e]))⟩ (.inr fun e => ?_)
  have := (h.lt b e).1
  omega
theorem Turn.grownM {b : Nat} {w0 w w' : World} {row : Option Nat} (t : Turn b w0 w) (g : w.grownBy w' row) (hr : ∀ k, row = some k → w0.heap.size ≤ k) : Turn b w0 w' :=
  ⟨g.os.trans t.os, g.tape.trans t.tape, g.output.trans t.output, Nat.le_trans t.size g.size, fun k hk hb => (g.block k (Nat.lt_of_lt_of_le hk t.size) (fun e => by have := hr k e.symm; omega)).trans (t.block k hk hb)⟩
theorem Src.grownM {w w' : World} {b k : Nat} {a : Option Addr} {len cap : Nat} {zs : List Int} {row : Option Nat} (s : Src w b k a len cap zs) (g : w.grownBy w' row) (hr : ∀ k, row = some k → b < k) : Src w' b k a len cap zs := by
  have h := s.here
  have hne : ∀ p : Nat, p ≤ b → some p ≠ row := fun p hp e => by have := hr p e.symm; omega
  refine ⟨cell_g g s.code (hne b (Nat.le_refl _)), cell_g g s.count (hne b (Nat.le_refl _)), ?_, ?_, s.away, Nat.lt_of_lt_of_le h g.size⟩
  · rw [← s.free]
    exact World.frozen?_of_block (w := w) (g.block b h (hne b (Nat.le_refl _)))
  · rcases s.row with h | ⟨x, rfl, h1, h2, h3, h4, h5⟩
    · exact .inl h
    · refine .inr ⟨x, rfl, h1, h2, h3, fun i hi => ?_, h5⟩
      have hx := s.away x rfl (by omega)
      exact cell_g g (h4 i hi) (by rw [src_block]; exact hne _ (by omega))
theorem field_mem (x y : Value) (w : World) : (Instr.field 97 (.agg #[x, y]) 1).run Tryz.prog w = .ok y w := by kernel_rfl
def DrawnM (w : World) (base : Nat) (v : Value) : Prop := (∃ zs, Nums w base v zs ∧ zs.length ≤ 200) ∨ ∃ a n cap, v = .slice a n cap ∧ n ≤ 200 ∧ formB n = false
set_option maxHeartbeats 2000000 in
theorem mem_any {w : World} {b k : Nat} {a : Option Addr} {len cap : Nat} {zs : List Int} (s : Src w b k a len cap zs) (hk : k ≤ 50000) :
    Calls Tryz.prog 53 #[.pointer (some ⟨b, 0, none⟩)] w fun e w' => ∃ v k', e = .returned v ∧ DrawnM w' w.heap.size v ∧ k' ≤ k + 1000 ∧ Turn b w w' ∧ Src w' b k' a len cap zs := by
  have hfield := field_mem
  have HB : Hid (b < w.heap.size) := s.here
  go_enter Tryz.func53, Tryz.ntmps53
  go_wp2_with fail
  refine (next_any s (by omega) _).mono ?_
  rintro e w1 ⟨v1, rfl, h1, -, t1, s1⟩
  obtain ⟨l1, u1⟩ := h1 (by omega)
  clear h1
  obtain ⟨p, hp⟩ : ∃ p : Nat, 1 + v1 = p := ⟨(1 + v1).toNat, by omega⟩
  have hp1 : 1 ≤ (p : Int) ∧ (p : Int) ≤ 5 := by omega
  have fn := fun w => spec_new (p : Int) w
  rw [show newC (p : Int) = 0 by simp only [newC]; rw [if_pos (by omega)], show newZ (p : Int) = List.replicate (p * 8) 0 by simp only [newZ]; rw [if_pos (by omega), Int.toNat_natCast]] at fn
  have HP : Hid (1 ≤ p ∧ p ≤ 5) := ⟨by omega, by omega⟩
  have T1 : Hid (Turn b w w1) := t1
  have S1 : Hid (Src w1 b _ a len cap zs) := s1
  clear t1 s1 hp1
  go_wp2_with fail
  refine (fn _).mono ?_
  rintro e w2 ⟨v, rfl, n2, b2⟩
  have N2 : Hid (Nums w2 w.heap.size v _) := n2.mono T1.out.size
  have T2 : Hid (Turn b w w2) := T1.out.trans (Turn.of_below b2)
  have S2 : Hid (Src w2 b (k + 1) a len cap zs) := S1.out.grownM (row := none) (below_grown b2 none) (by simp)
  clear n2 b2 fn
  obtain ⟨av, cv, rfl, _, _, hg⟩ := N2.out.shape
  obtain ⟨g, rfl⟩ := hg (by have := HP.out; simp; omega)
  rw [List.length_replicate] at N2 ⊢
  obtain ⟨n, hn⟩ : ∃ n, p * 8 = n := ⟨_, rfl⟩
  rw [hn] at N2 ⊢
  have HN : Hid (p * 8 = n) := hn
  have hn40 : (n : Int) ≤ 40 := by have := HP.out; omega
  clear hn hg u1 l1 hp
  go_wp2_with fail
  go_loopw [4] (fun c wr => ∃ (j k' : Nat) (ms : List Int), j ≤ n ∧ c = .int .i64 j ∧ ms.length = n ∧ k' ≤ k + 1 + 6 * j ∧ Nums wr w.heap.size (.slice (some ⟨g, 0, none⟩) n cv) ms ∧ Turn b w wr ∧ Src wr b k' a len cap zs) (fun c _ => n - (intOf c).toNat)
  case atStart => exact ⟨0, k + 1, _, Nat.zero_le _, rfl, by simp, by omega, N2.out, T2.out, S2.out⟩
  case round =>
    obtain ⟨j, k', ms, hj, rfl, hms, hk', hN, hT, hS⟩ := hrel
    have NJ : Hid (Nums wr w.heap.size _ ms) := hN
    have TJ : Hid (Turn b w wr) := hT
    have SJ : Hid (Src wr b k' a len cap zs) := hS
    have HMS : Hid (ms.length = n) := hms
    have HK' : Hid (k' ≤ k + 1 + 6 * j ∧ k ≤ 50000 ∧ j ≤ n ∧ n ≤ 40) := ⟨hk', hk, hj, by omega⟩
    clear hN hT hS hms hk' N2 T2 S2
    by_cases hlt : j < n
    · have hJ : (j : Int) < (n : Int) := by omega
      have HLT : Hid (j < n) := hlt
      clear hlt
      go_wp2_with fail
      refine (chance_any SJ.out (by have := HK'.out; omega) _).mono ?_
      rintro e w3 ⟨c3, rfl, t3, s3⟩
      have N3 : Hid (Nums w3 w.heap.size _ ms) := NJ.out.turn t3 HB.out
      have T3 : Hid (Turn b w w3) := TJ.out.trans t3
      have S3 : Hid (Src w3 b _ a len cap zs) := s3
      clear t3 s3
      cases c3
      · go_wp2_with fail
        go_roundw
        case rel => exact ⟨j + 1, k' + 1, ms, by have := HLT.out; omega, by go_num, HMS.out, by have := HK'.out; omega, N3.out, T3.out, S3.out⟩
        case measure => have := HLT.out; simp [intOf]; omega
      · go_wp2_with fail
        refine (word_any S3.out (by have := HK'.out; omega)).mono ?_
        rintro e w4 ⟨v4, rfl, h4, t4, s4⟩
        have N4 : Hid (Nums w4 w.heap.size _ ms) := N3.out.turn t4 HB.out
        have T4 : Hid (Turn b w w4) := T3.out.trans t4
        have S4 : Hid (Src w4 b _ a len cap zs) := s4
        have c4 := N4.out.cell HMS.out.symm j HLT.out
        have f4 := N4.out.free HMS.out.symm j
        clear t4 s4
        go_wp2_with fail
        go_roundw
        case rel =>
          obtain ⟨m1, m2⟩ := N4.out.store j v4
          refine ⟨j + 1, k' + 1 + 5, ms.set j v4, by have := HLT.out; omega, by go_num, by rw [List.length_set]; exact HMS.out, by have := HK'.out; omega, m1, ?_, ?_⟩
          · exact T4.out.grownM m2 (fun q hq => by have := (N4.out.lt q hq).1; omega)
          · exact S4.out.grownM m2 (fun q hq => by have := (N4.out.lt q hq).1; have := HB.out; omega)
        case measure => have := HLT.out; simp [intOf]; omega
    · have hJ : ¬ (j : Int) < (n : Int) := by omega
      clear hlt
      go_wp2_with fail
      refine (next_any SJ.out (by have := HK'.out; omega) _).mono ?_
      rintro e w3 ⟨v3, rfl, -, -, t3, s3⟩
      have N3 : Hid (Nums w3 w.heap.size _ ms) := NJ.out.turn t3 HB.out
      have T3 : Hid (Turn b w w3) := TJ.out.trans t3
      have S3 : Hid (Src w3 b _ a len cap zs) := s3
      clear t3 s3 NJ TJ SJ
      by_cases e0 : v3 = 0
      · subst e0
        have hn1 : (1 : Int) ≤ (n : Int) := by have := HN.out; have := HP.out; omega
        have hcn : (n : Int) ≤ (cv : Int) := by have := N3.out.lens.1; omega
        have hc1 : ¬ cv = 1 := by have := N3.out.lens.1; have := HN.out; have := HP.out; omega
        go_wp2_with fail
        go_ret
        exact ⟨_, _, rfl, .inr ⟨_, _, _, rfl, by have := HK'.out; omega, by have := HN.out; have := HP.out; simp only [formB, decide_eq_false_iff_not]; omega⟩, by have := HK'.out; omega, T3.out, S3.out⟩
      by_cases e1 : v3 = 1
      · subst e1
        go_wp2_with fail
        refine (next_any S3.out (by have := HK'.out; omega) _).mono ?_
        rintro e w4 ⟨v4, rfl, h4, -, t4, s4⟩
        have N4 : Hid (Nums w4 w.heap.size _ ms) := N3.out.turn t4 HB.out
        have T4 : Hid (Turn b w w4) := T3.out.trans t4
        have S4 : Hid (Src w4 b _ a len cap zs) := s4
        obtain ⟨l4, u4⟩ := h4 (by have := HN.out; have := HP.out; omega)
        clear t4 s4 h4
        obtain ⟨q, rfl⟩ : ∃ q : Nat, v4 = q := ⟨v4.toNat, by omega⟩
        go_wp2_with fail
        have hbb := S4.out.here
        refine (pick_any (S4.out.alloc _) (by have := HK'.out; omega) isWide _ 2 (by omega) (by omega) (by simp) (by omega) ?_).mono ?_
        · intro i hi
          have : i = 0 ∨ i = 1 := by omega
          rcases this with rfl | rfl
          all_goals exact ⟨_, cell_new rfl, by unfold isWide; omega⟩
        rintro e w5 ⟨v5, rfl, -, t5, s5⟩
        have N5 : Hid (Nums w5 w.heap.size _ ms) := (N4.out.keep (al (Below.refl _ _) _)).turn t5 HB.out
        have T5 : Hid (Turn b w w5) := (T4.out.trans (Turn.alloc b w4 _)).trans t5
        have S5 : Hid (Src w5 b _ a len cap zs) := s5
        have HQ : Hid (q < n) := by show _ < _; omega
        have hqn : (q : Int) < (n : Int) := by omega
        have c5 := N5.out.cell HMS.out.symm q HQ.out
        have f5 := N5.out.free HMS.out.symm q
        clear t5 s5
        go_wp2_with fail
        go_ret
        obtain ⟨m1, m2⟩ := N5.out.store q v5
        refine ⟨_, _, rfl, .inl ⟨_, m1, by rw [List.length_set]; have := HMS.out; have := HK'.out; omega⟩, ?_, T5.out.grownM m2 (fun r hr => by have := (N5.out.lt r hr).1; omega), S5.out.grownM m2 (fun r hr => by have := (N5.out.lt r hr).1; have := HB.out; omega)⟩
        have := HK'.out
        omega
      by_cases e2 : v3 = 2
      · subst e2
        obtain ⟨ii, hi, hz0, hz1, hz2⟩ := info_parts info_i64
        go_wp2_with (at_make; refine wpList_make_full _ rfl _ _ 24 rfl w.heap.size 2 ii _ 1 Tryz.underlying24 hi hz0 hz1 _ _ _ _ 200 rfl rfl rfl rfl (by rw [hz2]; omega) (by unfold maxLen; omega) T3.out.size ?_; intro w4 hown hgrow)
        have N4 : Hid (Nums w4 w.heap.size _ (List.replicate 200 0)) := Nums.made hown (by rw [Nat.mul_one, show (Value.int .i64 0).cells = #[.int .i64 0] from rfl, toList_madeCells_one, List.map_replicate])
        have T4 : Hid (Turn b w w4) := T3.out.grownM hgrow (by simp)
        have S4 : Hid (Src w4 b _ a len cap zs) := S3.out.grownM hgrow (by simp)
        clear hown hgrow
        go_wp2_with fail
        go_ret
        exact ⟨_, _, rfl, .inl ⟨_, N4.out, by rw [List.length_replicate]; exact Nat.le_refl _⟩, by have := HK'.out; omega, T4.out, S4.out⟩
      · have g0 : (v3 == 0) = false := beq_eq_false_iff_ne.2 e0
        have g1 : (v3 == 1) = false := beq_eq_false_iff_ne.2 e1
        have g2 : (v3 == 2) = false := beq_eq_false_iff_ne.2 e2
        clear e0 e1 e2
        go_wp2_with fail
        go_ret
        exact ⟨_, _, rfl, .inl ⟨_, N3.out, by have := HMS.out; have := HK'.out; omega⟩, by have := HK'.out; omega, T3.out, S3.out⟩
theorem DrawnM.shape {w : World} {base : Nat} {v : Value} (h : DrawnM w base v) : ∃ a n cap, v = .slice a n cap ∧ n ≤ 200 := by
  rcases h with ⟨zs, hN, hl⟩ | ⟨a, n, cap, rfl, hn, _⟩
  · obtain ⟨a, cap, rfl, _⟩ := hN.shape
    exact ⟨_, _, _, rfl, hl⟩
  · exact ⟨_, _, _, rfl, hn⟩
theorem DrawnM.turn {w w' : World} {base b : Nat} {v : Value} (h : DrawnM w base v) (t : Turn b w w') (hb : b < base) : DrawnM w' base v := by
  rcases h with ⟨zs, hN, hl⟩ | h
  · exact .inl ⟨zs, hN.turn t hb, hl⟩
  · exact .inr h
theorem DrawnM.mono {w : World} {base base' : Nat} {v : Value} (h : DrawnM w base v) (hb : base' ≤ base) : DrawnM w base' v := by
  rcases h with ⟨zs, hN, hl⟩ | h
  · exact .inl ⟨zs, hN.mono hb, hl⟩
  · exact .inr h
theorem form_cases {n : Nat} (h : formB n = false) : n = 0 ∨ (¬ n = 0 ∧ 192 < n) ∨ (¬ n = 0 ∧ n ≤ 192 ∧ ¬ n % 8 = 0) := by
  have := of_decide_eq_false h
  omega
set_option maxHeartbeats 1000000 in
theorem impl_memBad (a : Option Addr) (n cap : Nat) (w : World) (hn : n ≤ 200) (hf : formB n = false) :
    Calls Tryz.prog 11 #[.slice a n cap] w fun e w' => e = .returned (.int .i64 1) ∧ w' = w := by
  rcases form_cases hf with rfl | ⟨h1, h2⟩ | ⟨h1, h2, h3⟩
  · go_enter Tryz.func11, Tryz.ntmps11
    go_wp2_with fail
    go_ret
    exact ⟨rfl, rfl⟩
  · have e1 : ¬ (n : Int) = 0 := by omega
    have e2 : (192 : Int) < n := by omega
    clear h1 h2 hf
    go_enter Tryz.func11, Tryz.ntmps11
    go_wp2_with fail
    go_ret
    exact ⟨rfl, rfl⟩
  · have e1 : ¬ (n : Int) = 0 := by omega
    have e2 : ¬ (192 : Int) < n := by omega
    have e3 : (((n : Int) % 8) != 0) = true := by simp; omega
    clear h1 h2 h3 hf
    go_enter Tryz.func11, Tryz.ntmps11
    go_wp2_with fail
    go_ret
    exact ⟨rfl, rfl⟩
theorem form_cases' {n : Nat} (h : formB n = false) : ¬ n % 8 = 0 ∨ (n % 8 = 0 ∧ n < 8) ∨ (n % 8 = 0 ∧ ¬ n < 8 ∧ 192 < n) := by
  have := of_decide_eq_false h
  omega
set_option maxHeartbeats 1000000 in
theorem spec_memBad (a : Option Addr) (n cap : Nat) (w : World) (hn : n ≤ 200) (hf : formB n = false) :
    Calls Tryz.prog 56 #[.slice a n cap] w fun e w' => e = .returned (.int .i64 1) ∧ w' = w := by
  have hni : (n : Int) ≤ 200 := by omega
  rcases form_cases' hf with h1 | ⟨h1, h2⟩ | ⟨h1, h2, h3⟩
  · have e3 : (((n : Int) % 8) != 0) = true := by simp; omega
    clear h1 hf hn
    go_enter Tryz.func56, Tryz.ntmps56
    go_wp2_with fail
    go_ret
    exact ⟨rfl, rfl⟩
  · have e1 : (((n : Int) % 8) != 0) = false := by simp; omega
    have e2 : (n : Int) < 8 := by omega
    clear h1 h2 hf hn
    go_enter Tryz.func56, Tryz.ntmps56
    go_wp2_with fail
    go_ret
    exact ⟨rfl, rfl⟩
  · have e1 : (((n : Int) % 8) != 0) = false := by simp; omega
    have e2 : ¬ (n : Int) < 8 := by omega
    have e3 : (192 : Int) < n := by omega
    clear h1 h2 h3 hf hn
    go_enter Tryz.func56, Tryz.ntmps56
    go_wp2_with fail
    go_ret
    exact ⟨rfl, rfl⟩
def Drawn (w : World) (base : Nat) (v : Value) : Prop :=
  (∃ rs : List (Int × Int), Prs 36 w base v rs ∧ rs.length = 8) ∨ ∃ a cap, v = .slice a 7 cap
theorem Drawn.turn {w w' : World} {base b : Nat} {v : Value} (h : Drawn w base v) (t : Turn b w w') (hb : b < base) : Drawn w' base v := by
  rcases h with ⟨rs, h, hl⟩ | h
  · exact .inl ⟨rs, h.turn t hb, hl⟩
  · exact .inr h
theorem Drawn.mono {w : World} {base base' : Nat} {v : Value} (h : Drawn w base v) (hb : base' ≤ base) : Drawn w base' v := by
  rcases h with ⟨rs, h, hl⟩ | h
  · exact .inl ⟨rs, h.mono hb, hl⟩
  · exact .inr h
theorem Drawn.shape {w : World} {base : Nat} {v : Value} (h : Drawn w base v) : ∃ a n cap, v = .slice a n cap := by
  rcases h with ⟨rs, h, hl⟩ | ⟨a, cap, rfl⟩
  · obtain ⟨a, cap, rfl, _⟩ := h.shape
    exact ⟨_, _, _, rfl⟩
  · exact ⟨_, _, _, rfl⟩
theorem Prs.storeAt {e : TypeId} {w : World} {base g n cap : Nat} {rs : List (Int × Int)} (h : Prs e w base (.slice (some ⟨g, 0, none⟩) n cap) rs) (hn : n = rs.length) (j : Nat) (u : Int) (hj : j < n) :
    (∃ qs, qs.length = rs.length ∧ Prs e (w.setCell ⟨g, j * 2, none⟩ (.int .i64 u)) base (.slice (some ⟨g, 0, none⟩) n cap) qs) ∧ ∃ qs, qs.length = rs.length ∧ Prs e (w.setCell ⟨g, j * 2 + 1, none⟩ (.int .i64 u)) base (.slice (some ⟨g, 0, none⟩) n cap) qs := by
  subst hn
  have h1 := (World.ownsRow.stored h (j * 2) (.int .i64 u)).1
  have h2 := (World.ownsRow.stored h (j * 2 + 1) (.int .i64 u)).1
  have e1 : (flat rs).set (j * 2) (.int .i64 u) = flat (rs.set j (u, (rs.getD j (0, 0)).2)) := by
    rw [flat_set rs j _ _ hj]
    apply List.ext_getElem?
    intro i
    by_cases hi : j * 2 + 1 = i
    · subst hi
      rw [List.getElem?_set_ne (by omega), (flat_get rs j hj).2, List.getElem?_set_self (by rw [List.length_set, flat_length]; omega)]
    · rw [List.getElem?_set_ne hi]
  have e2 : (flat rs).set (j * 2 + 1) (.int .i64 u) = flat (rs.set j ((rs.getD j (0, 0)).1, u)) := by
    rw [flat_set rs j _ _ hj]
    apply List.ext_getElem?
    intro i
    by_cases hi : j * 2 + 1 = i
    · subst hi
      rw [List.getElem?_set_self (by rw [flat_length]; omega), List.getElem?_set_self (by rw [List.length_set, flat_length]; omega)]
    · rw [List.getElem?_set_ne hi, List.getElem?_set_ne hi]
      by_cases hk : j * 2 = i
      · subst hk
        rw [List.getElem?_set_self (by rw [flat_length]; omega), (flat_get rs j hj).1]
      · rw [List.getElem?_set_ne hk]
  refine ⟨⟨rs.set j (u, (rs.getD j (0, 0)).2), List.length_set .., ?_⟩, ⟨rs.set j ((rs.getD j (0, 0)).1, u), List.length_set .., ?_⟩⟩
  · show World.ownsRow _ _ _ _ _ _ (flat (rs.set j (u, (rs.getD j (0, 0)).2)))
    rw [← e1, List.length_set]
    exact h1
  · show World.ownsRow _ _ _ _ _ _ (flat (rs.set j ((rs.getD j (0, 0)).1, u)))
    rw [← e2, List.length_set]
    exact h2
def Drawn8 (w : World) (base : Nat) (v : Value) : Prop :=
  (∃ rs : List (Int × Int), Prs 36 w base v rs ∧ rs.length = 8) ∨ ∃ g yc c2 rs, v = .slice (some ⟨g, 2, none⟩) 7 c2 ∧ Prs 36 w base (.slice (some ⟨g, 0, none⟩) 8 yc) rs ∧ rs.length = 8
theorem Drawn8.drawn {w : World} {base : Nat} {v : Value} (h : Drawn8 w base v) : Drawn w base v := by
  rcases h with h | ⟨g, yc, c2, rs, rfl, _⟩
  · exact .inl h
  · exact .inr ⟨_, _, rfl⟩
theorem Drawn8.turn {w w' : World} {base b : Nat} {v : Value} (h : Drawn8 w base v) (t : Turn b w w') (hb : b < base) : Drawn8 w' base v := by
  rcases h with ⟨rs, h, hl⟩ | ⟨g, yc, c2, rs, rfl, h, hl⟩
  · exact .inl ⟨rs, h.turn t hb, hl⟩
  · exact .inr ⟨g, yc, c2, rs, rfl, h.turn t hb, hl⟩
theorem Drawn8.mono {w : World} {base base' : Nat} {v : Value} (h : Drawn8 w base v) (hb : base' ≤ base) : Drawn8 w base' v := by
  rcases h with ⟨rs, h, hl⟩ | ⟨g, yc, c2, rs, rfl, h, hl⟩
  · exact .inl ⟨rs, h.mono hb, hl⟩
  · exact .inr ⟨g, yc, c2, rs, rfl, h.mono hb, hl⟩
set_option maxHeartbeats 2000000 in
theorem bent_rows {w : World} {b k : Nat} {a : Option Addr} {len cap : Nat} {zs : List Int} (s : Src w b k a len cap zs) (hk : k ≤ 80000) (top : Int) :
    Calls Tryz.prog 49 #[.pointer (some ⟨b, 0, none⟩), .int .i64 top] w fun e w' => ∃ (v : Value) (k' : Nat), e = .returned v ∧ Drawn8 w' w.heap.size v ∧ k' ≤ k + 30 ∧ Turn b w w' ∧ Src w' b k' a len cap zs := by
  have hb := s.here
  have HS : Hid (Src w b k a len cap zs) := s
  have HK : Hid (k ≤ 80000) := hk
  clear s hk
  go_enter Tryz.func49, Tryz.ntmps49
  go_wp2_with fail
  refine (pages_any HS.out (by have := HK.out; omega) top).mono ?_
  rintro e w1 ⟨v, rs, rfl, hl, hP, t1, s1⟩
  obtain ⟨ya, yc, rfl, l1, l2, hg⟩ := hP.shape
  rw [hl] at l1 hg hP ⊢
  obtain ⟨g, rfl⟩ := hg (by omega)
  have PB : Hid (Prs 36 w1 w.heap.size (.slice (some ⟨g, 0, none⟩) 8 yc) rs) := hP
  have LR : Hid (rs.length = 8) := hl
  clear hP hl hg l2
  go_wp2_with fail
  refine (next_any s1 (by have := HK.out; omega) _).mono ?_
  rintro e w2 ⟨v2, rfl, h2, -, t2, s2⟩
  obtain ⟨i0, i1⟩ := h2 (by omega)
  obtain ⟨i, rfl⟩ := Int.eq_ofNat_of_zero_le i0
  have hi8 : i < 8 := by omega
  clear h2 i0
  go_wp2_with fail
  refine (next_any s2 (by have := HK.out; omega) _).mono ?_
  rintro e w3 ⟨v3, rfl, -, -, t3, s3⟩
  have T3 : Hid (Turn b w w3) := t1.trans (t2.trans t3)
  have S3 : Hid (Src w3 b (k + 24 + 1 + 1) a len cap zs) := s3
  have P3 : Hid (Prs 36 w3 w.heap.size (.slice (some ⟨g, 0, none⟩) 8 yc) rs) := PB.out.turn (t2.trans t3) hb
  have h3 := s3.here
  have hgb : w.heap.size ≤ g := (PB.out.lt g rfl).1
  clear t1 t2 t3 s1 s2 s3
  by_cases c0 : v3 = 0
  · subst c0
    go_wp2_with fail
    refine (pick_any (S3.out.alloc _) (by have := HK.out; omega) (fun _ => True) _ 3 (by omega) (by omega) (by simp) (by omega) ?_).mono ?_
    · intro i hi
      have : i = 0 ∨ i = 1 ∨ i = 2 := by omega
      rcases this with rfl | rfl | rfl
      all_goals exact ⟨_, cell_new rfl, trivial⟩
    rintro e w4 ⟨v4, rfl, -, t4, s4⟩
    have T4 : Hid (Turn b w w4) := T3.out.trans ((Turn.alloc _ w3 _).trans t4)
    have P4 : Hid (Prs 36 w4 w.heap.size (.slice (some ⟨g, 0, none⟩) 8 yc) rs) := P3.out.turn ((Turn.alloc _ w3 _).trans t4) hb
    have c1 := (P4.out.cell LR.out.symm i hi8).1
    have f1 := P4.out.free LR.out.symm (i * 2)
    have S4 : Hid (Src w4 b (k + 24 + 1 + 1 + 1) a len cap zs) := s4
    clear t4 s4
    go_wp2_with fail
    go_ret
    obtain ⟨qs, hq, hQ⟩ := (P4.out.storeAt LR.out.symm i v4 hi8).1
    exact ⟨_, k + 24 + 1 + 1 + 1, rfl, .inl ⟨qs, hQ, hq.trans LR.out⟩, by omega, T4.out.put _ _ hgb, S4.out.put _ _ (by show b < g; omega)⟩
  have n0 : (v3 == 0) = false := beq_eq_false_iff_ne.2 c0
  by_cases c1 : v3 = 1
  · subst c1
    clear n0 c0
    go_wp2_with fail
    refine (pick_any (S3.out.alloc _) (by have := HK.out; omega) (fun _ => True) _ 4 (by omega) (by omega) (by simp) (by omega) ?_).mono ?_
    · intro i hi
      have : i = 0 ∨ i = 1 ∨ i = 2 ∨ i = 3 := by omega
      rcases this with rfl | rfl | rfl | rfl
      all_goals exact ⟨_, cell_new rfl, trivial⟩
    rintro e w4 ⟨v4, rfl, -, t4, s4⟩
    have T4 : Hid (Turn b w w4) := T3.out.trans ((Turn.alloc _ w3 _).trans t4)
    have P4 : Hid (Prs 36 w4 w.heap.size (.slice (some ⟨g, 0, none⟩) 8 yc) rs) := P3.out.turn ((Turn.alloc _ w3 _).trans t4) hb
    have c1 := (P4.out.cell LR.out.symm i hi8).2
    have f1 := P4.out.free LR.out.symm (i * 2 + 1)
    have S4 : Hid (Src w4 b (k + 24 + 1 + 1 + 1) a len cap zs) := s4
    clear t4 s4
    go_wp2_with fail
    go_ret
    obtain ⟨qs, hq, hQ⟩ := (P4.out.storeAt LR.out.symm i v4 hi8).2
    exact ⟨_, k + 24 + 1 + 1 + 1, rfl, .inl ⟨qs, hQ, hq.trans LR.out⟩, by omega, T4.out.put _ _ hgb, S4.out.put _ _ (by show b < g; omega)⟩
  have n1 : (v3 == 1) = false := beq_eq_false_iff_ne.2 c1
  by_cases c2 : v3 = 2
  · subst c2
    clear n0 c0 n1 c1
    have l1I : (8 : Int) ≤ (yc : Int) := by omega
    go_wp2_with fail
    go_ret
    exact ⟨_, k + 24 + 1 + 1, rfl, .inr ⟨_, _, _, _, rfl, P3.out, LR.out⟩, by omega, T3.out, S3.out⟩
  have n2 : (v3 == 2) = false := beq_eq_false_iff_ne.2 c2
  clear c0 c1 c2
  go_wp2_with fail
  go_ret
  exact ⟨_, k + 24 + 1 + 1, rfl, .inl ⟨rs, P3.out, LR.out⟩, by omega, T3.out, S3.out⟩
theorem map_take (f : Int × Int → Int × Int) (rs : List (Int × Int)) (j : Nat) (h : j < rs.length) : (rs.take (j + 1)).map f = (rs.take j).map f ++ [((f ((rs.getD j (0, 0)).1, (rs.getD j (0, 0)).2)).1, (f ((rs.getD j (0, 0)).1, (rs.getD j (0, 0)).2)).2)] := by
  rw [List.take_succ_eq_append_getElem h, List.map_append, List.getD, List.getElem?_eq_getElem h]
  rfl
structure Grew (w : World) (S : Nat) (z : Value) (L : List (Int × Int)) (w' : World) : Prop where
  prs : Prs 36 w' (S + 2) z L
  r0 : w'.cell? ⟨S, 0, none⟩ = some (.int .i64 0)
  r1 : w'.cell? ⟨S, 1, none⟩ = some (.slice none 0 0)
  f0 : w'.frozen? ⟨S, 0, none⟩ = false
  f1 : w'.frozen? ⟨S, 1, none⟩ = false
  o0 : w'.cell? ⟨S + 1, 0, none⟩ = some (.int .i64 0)
  o1 : w'.cell? ⟨S + 1, 1, none⟩ = some z
  g1 : w'.frozen? ⟨S + 1, 1, none⟩ = false
  below : Below w.heap.size w w'
theorem Grew.keep {w w1 w2 : World} {S : Nat} {z : Value} {L : List (Int × Int)} (h : Grew w S z L w1) (b : Below w1.heap.size w1 w2) : Grew w S z L w2 := by
  have s1 : S + 1 < w1.heap.size := block_of_cell h.o0
  exact ⟨h.prs.keep b, cell_keep b h.r0, cell_keep b h.r1, by rw [b.frozen (p := ⟨S, 0, none⟩) (by show S < _; omega)]; exact h.f0, by rw [b.frozen (p := ⟨S, 1, none⟩) (by show S < _; omega)]; exact h.f1,
    cell_keep b h.o0, cell_keep b h.o1, by rw [b.frozen (p := ⟨S + 1, 1, none⟩) s1]; exact h.g1, on h.below b⟩
theorem Grew.grown {w w1 w2 : World} {S : Nat} {z z' : Value} {L : List (Int × Int)} {r : Int × Int} (h : Grew w S z L w1) (hp : Prs 36 w2 (S + 2) z' (L ++ [r])) (g : w1.grownBy w2 z.ownBlock) (hS : w.heap.size ≤ S) :
    Grew w S z' (L ++ [r]) (w2.setCell ⟨S + 1, 1, none⟩ z') ∧ w2.cell? ⟨S + 1, 1, none⟩ = some z ∧ w2.frozen? ⟨S + 1, 1, none⟩ = false := by
  have s1 : S + 1 < w1.heap.size := block_of_cell h.o0
  have n0 : some S ≠ z.ownBlock := pown_not h.prs _ (.inl (by omega))
  have n1 : some (S + 1) ≠ z.ownBlock := pown_not h.prs _ (.inl (by omega))
  have r0 := cell_grown g h.r0 n0
  have r1 := cell_grown g h.r1 n0
  have o0 := cell_grown g h.o0 n1
  have o1 := cell_grown g h.o1 n1
  have f0 : w2.frozen? ⟨S, 0, none⟩ = false := by rw [frozen_grown (p := ⟨S, 0, none⟩) g (by show S < _; omega) n0]; exact h.f0
  have f1 : w2.frozen? ⟨S, 1, none⟩ = false := by rw [frozen_grown (p := ⟨S, 1, none⟩) g (by show S < _; omega) n0]; exact h.f1
  have g1 : w2.frozen? ⟨S + 1, 1, none⟩ = false := by rw [frozen_grown (p := ⟨S + 1, 1, none⟩) g s1 n1]; exact h.g1
  have b2 : Below w.heap.size w w2 := h.below.grown g h.below.size (fun k hk => by have := (h.prs.lt k hk).1; omega)
  refine ⟨⟨hp.put _ _ (fun e => pown_not hp (S + 1) (.inl (by omega)) e.symm), by simp [go_sem, r0], by simp [go_sem, r1], by rw [World.frozen?_setCell]; exact f0, by rw [World.frozen?_setCell]; exact f1, by simp [go_sem, o0], by rw [World.cell?_setCell_same _ _ _ o1], by rw [World.frozen?_setCell]; exact g1, b2.setCell (by show w.heap.size ≤ S + 1; omega) _⟩, o1, g1⟩
def Flt (w : World) (v : Value) (top c : Int) : Prop :=
  (∀ w1, Below w.heap.size w w1 → Calls Tryz.prog 67 #[v, .int .i64 top] w1 fun e w' => e = .returned (.int .i64 c) ∧ Below w1.heap.size w1 w') ∧
  ∀ w1, Below w.heap.size w w1 → Calls Tryz.prog 55 #[v, .int .i64 top] w1 fun e w' => e = .returned (.int .i64 c) ∧ w' = w1
theorem Flt.good {w : World} {base : Nat} {v : Value} {rs : List (Int × Int)} (h : Prs 36 w base v rs) (hl : rs.length = 8) (top : Int) : Flt w v top (pgsV rs top) :=
  ⟨fun w1 b => impl_fault v rs top base w1 (h.keep b) (by omega), fun w1 b => spec_fault v rs top base w1 (h.keep b) (by omega)⟩
theorem Flt.bad {w : World} (a : Option Addr) (cap : Nat) (top : Int) (h1 : 1 ≤ top) (h2 : top ≤ 24) : Flt w (.slice a 7 cap) top 1 := by
  refine ⟨fun w1 b => ?_, fun w1 b => spec_faultBad _ _ _ _ _ (by omega) (by omega) h1 h2⟩
  refine (impl_faultBad _ _ _ _ _ (by omega) (by omega) h1 h2).mono ?_
  rintro e w' ⟨rfl, rfl⟩
  exact ⟨rfl, Below.refl _ _⟩
theorem mcr_regs {w : World} {m : Nat} {t : TypeId} {H : Ht} {i o l pg : Value} {ca ri : Int} (h : Vb w m (mcr H i o l pg ca ri) t) (hl : H.regs.length = 16) : Rn w (some ⟨m, 0, none⟩) 16 16 H.regs := by
  refine .inr ⟨_, rfl, Nat.le_refl _, by decide, hl, fun j hj => ?_⟩
  have e : j = 0 ∨ j = 1 ∨ j = 2 ∨ j = 3 ∨ j = 4 ∨ j = 5 ∨ j = 6 ∨ j = 7 ∨ j = 8 ∨ j = 9 ∨ j = 10 ∨ j = 11 ∨ j = 12 ∨ j = 13 ∨ j = 14 ∨ j = 15 := by omega
  rw [Addr.add_mid]
  rcases e with rfl | rfl | rfl | rfl | rfl | rfl | rfl | rfl | rfl | rfl | rfl | rfl | rfl | rfl | rfl | rfl
  · exact h.cell 0 rfl
  · exact h.cell 1 rfl
  · exact h.cell 2 rfl
  · exact h.cell 3 rfl
  · exact h.cell 4 rfl
  · exact h.cell 5 rfl
  · exact h.cell 6 rfl
  · exact h.cell 7 rfl
  · exact h.cell 8 rfl
  · exact h.cell 9 rfl
  · exact h.cell 10 rfl
  · exact h.cell 11 rfl
  · exact h.cell 12 rfl
  · exact h.cell 13 rfl
  · exact h.cell 14 rfl
  · exact h.cell 15 rfl
theorem mcr_csr {w : World} {m : Nat} {t : TypeId} {H : Ht} {i o l pg : Value} {ca ri : Int} (h : Vb w m (mcr H i o l pg ca ri) t) (hl : H.csr.length = 11) : Rn w (some ⟨m, 17, none⟩) 11 11 H.csr := by
  refine .inr ⟨_, rfl, Nat.le_refl _, by decide, hl, fun j hj => ?_⟩
  have e : j = 0 ∨ j = 1 ∨ j = 2 ∨ j = 3 ∨ j = 4 ∨ j = 5 ∨ j = 6 ∨ j = 7 ∨ j = 8 ∨ j = 9 ∨ j = 10 := by omega
  rw [Addr.add_mid]
  rcases e with rfl | rfl | rfl | rfl | rfl | rfl | rfl | rfl | rfl | rfl | rfl
  · exact h.cell 17 rfl
  · exact h.cell 18 rfl
  · exact h.cell 19 rfl
  · exact h.cell 20 rfl
  · exact h.cell 21 rfl
  · exact h.cell 22 rfl
  · exact h.cell 23 rfl
  · exact h.cell 24 rfl
  · exact h.cell 25 rfl
  · exact h.cell 26 rfl
  · exact h.cell 27 rfl
set_option maxRecDepth 20000 in
set_option maxHeartbeats 8000000 in
theorem r_hartr (m : Nat) (i o l pg : Value) (ca ri : Int) (H : Ht) (w : World) (hv : Vb w m (mcr H i o l pg ca ri) 78) (hi : Rv w i H.inn) (ho : Rv w o H.out) (hr : H.regs.length = 16) (hc : H.csr.length = 11) (h2 : H.inn.length ≤ 1000) (h3 : H.out.length ≤ 1000) :
    Calls Tryz.prog 78 #[.pointer (some ⟨m, 0, none⟩)] w fun e w' => ∃ r c i' o', e = .returned (.agg #[r, .int .i64 H.pc, c, .bool H.halted, .bool H.waiting, .bool H.rung, .int .i64 H.done, i', o']) ∧ Hm w' w.heap.size r c i' o' H ∧ Ha r c i' o' ∧ Below w.heap.size w w' := by
  obtain ⟨a2, k2, rfl, hi⟩ := hi
  obtain ⟨a3, k3, rfl, ho⟩ := ho
  have LN : Hid (H.regs.length = 16 ∧ H.csr.length = 11 ∧ H.inn.length ≤ 1000 ∧ H.out.length ≤ 1000) := ⟨hr, hc, h2, h3⟩
  have HI : Hid (Rn w a2 _ k2 H.inn) := hi
  have HO : Hid (Rn w a3 _ k3 H.out) := ho
  have HV : Hid (Vb w m _ 78) := hv
  clear hr hc h2 h3 hi ho hv
  generalize H.inn.length = n2 at *
  generalize H.out.length = n3 at *
  generalize hW : w.alloc (.cells #[.slice none 0 0, .int .i64 0, .slice none 0 0, .bool false, .bool false, .bool false, .int .i64 0, .slice none 0 0, .slice none 0 0] 26) = W
  have B0 : Hid (Below w.heap.size w W) := by show Below _ _ _; rw [← hW]; exact al (Below.refl _ _) _
  obtain ⟨q, hq⟩ : ∃ q, w.heap.size = q := ⟨_, rfl⟩
  have HQ : Hid (w.heap.size = q) := hq
  have VR : Hid (Vb W q #[.slice none 0 0, .int .i64 0, .slice none 0 0, .bool false, .bool false, .bool false, .int .i64 0, .slice none 0 0, .slice none 0 0] 26) := by
    show Vb _ _ _ _; rw [← hW, ← hq]; exact Vb.new _ _ _
  have LT : Hid (q < W.heap.size) := VR.out.lt
  have ML : Hid (m < q) := by show _ < _; rw [← hq]; exact HV.out.lt
  have S0 : Hid (Sj W q W) := ⟨Mq.refl _ _, VR.out.there 9 (by decide)⟩
  have VS : Hid (∀ w', Sj W q w' → Vb w' m (mcr H (.slice a2 n2 k2) (.slice a3 n3 k3) l pg ca ri) 78) := fun w' hs => hs.1.vb (HV.out.keep B0.out) (by have := ML.out; omega)
  have IS : Hid (∀ w', Sj W q w' → Rn w' a2 n2 k2 H.inn) := fun w' hs => HI.out.mq ((Mq.of (below_grown B0.out none) fun k e => by cases e).trans hs.1) fun x e hl f => by have := HQ.out; omega
  have OS : Hid (∀ w', Sj W q w' → Rn w' a3 n3 k3 H.out) := fun w' hs => HO.out.mq ((Mq.of (below_grown B0.out none) fun k e => by cases e).trans hs.1) fun x e hl f => by have := HQ.out; omega
  have q16 : ∀ w', Sj W q w' → w'.cell? ⟨m, 16, none⟩ = some (.int .i64 H.pc) := fun w' hs => (VS.out w' hs).cell 16 rfl
  have q28 : ∀ w', Sj W q w' → w'.cell? ⟨m, 28, none⟩ = some (.bool H.halted) := fun w' hs => (VS.out w' hs).cell 28 rfl
  have q29 : ∀ w', Sj W q w' → w'.cell? ⟨m, 29, none⟩ = some (.bool H.waiting) := fun w' hs => (VS.out w' hs).cell 29 rfl
  have q30 : ∀ w', Sj W q w' → w'.cell? ⟨m, 30, none⟩ = some (.bool H.rung) := fun w' hs => (VS.out w' hs).cell 30 rfl
  have q31 : ∀ w', Sj W q w' → w'.cell? ⟨m, 31, none⟩ = some (.int .i64 H.done) := fun w' hs => (VS.out w' hs).cell 31 rfl
  have q32 : ∀ w', Sj W q w' → w'.cell? ⟨m, 32, none⟩ = some (.slice a2 n2 k2) := fun w' hs => (VS.out w' hs).cell 32 rfl
  have q33 : ∀ w', Sj W q w' → w'.cell? ⟨m, 33, none⟩ = some (.slice a3 n3 k3) := fun w' hs => (VS.out w' hs).cell 33 rfl
  go_enter Tryz.func78, Tryz.ntmps78
  go_wp2_with fail
  clear hW hq
  have SD : Hid (Sj W q W.drew) := S0.out.step LT.out (Below.refl _ _).drew
  refine wp_region_held (S := fun w' => Sj W q w') (by kernel_rfl) ?_
  change wpAnyH _ _ _ _ _ _ _ _ (World.drew _)
  refine wpTk (i := 0) (v := .pointer (some ⟨m, 0, none⟩)) rfl (Or.inl ⟨by rfl, fun w' hs => by go_simp⟩) SD.out ?_
  change wpAnyH _ _ _ _ _ _ _ (Act.put _ (some 3) _) _
  simp only [Act.put, zT, zZ, zS]
  refine wpTk (i := 1) (v := .pointer (some ⟨m, 0, none⟩)) rfl (Or.inl ⟨by rfl, fun w' hs => by go_simp⟩) SD.out ?_
  change wpAnyH _ _ _ _ _ _ _ (Act.put _ (some 4) _) _
  simp only [Act.put, zT, zZ, zS]
  refine wpTk (i := 2) (v := .pointer (some ⟨m, 0, none⟩)) rfl (Or.inl ⟨by rfl, fun w' hs => by go_simp⟩) SD.out ?_
  change wpAnyH _ _ _ _ _ _ _ (Act.put _ (some 5) _) _
  simp only [Act.put, zT, zZ, zS]
  refine wpTk (i := 3) (v := .pointer (some ⟨m, 0, none⟩)) rfl (Or.inl ⟨by rfl, fun w' hs => by go_simp⟩) SD.out ?_
  change wpAnyH _ _ _ _ _ _ _ (Act.put _ (some 6) _) _
  simp only [Act.put, zT, zZ, zS]
  refine wpTk (i := 4) (v := .slice (some ⟨m, 0, none⟩) 16 16) rfl (Or.inl ⟨by rfl, fun w' hs => by go_simp⟩) SD.out ?_
  change wpAnyH _ _ _ _ _ _ _ (Act.put _ (some 7) _) _
  simp only [Act.put, zT, zZ, zS]
  refine wpTk (i := 6) (v := .pointer (some ⟨m, 0, none⟩)) rfl (Or.inl ⟨by rfl, fun w' hs => by go_simp⟩) SD.out ?_
  change wpAnyH _ _ _ _ _ _ _ (Act.put _ (some 9) _) _
  simp only [Act.put, zT, zZ, zS]
  refine wpTk (i := 7) (v := .pointer (some ⟨m, 0, none⟩)) rfl (Or.inl ⟨by rfl, fun w' hs => by go_simp⟩) SD.out ?_
  change wpAnyH _ _ _ _ _ _ _ (Act.put _ (some 10) _) _
  simp only [Act.put, zT, zZ, zS]
  refine wpTk (i := 8) (v := .pointer (some ⟨m, 0, none⟩)) rfl (Or.inl ⟨by rfl, fun w' hs => by go_simp⟩) SD.out ?_
  change wpAnyH _ _ _ _ _ _ _ (Act.put _ (some 11) _) _
  simp only [Act.put, zT, zZ, zS]
  refine wpTk (i := 9) (v := .pointer (some ⟨m, 16, none⟩)) rfl (Or.inl ⟨by rfl, fun w' hs => by go_simp⟩) SD.out ?_
  change wpAnyH _ _ _ _ _ _ _ (Act.put _ (some 12) _) _
  simp only [Act.put, zT, zZ, zS]
  refine wpTk (i := 10) (v := .int .i64 H.pc) rfl (Or.inl ⟨by rfl, fun w' hs => by go_simp⟩) SD.out ?_
  change wpAnyH _ _ _ _ _ _ _ (Act.put _ (some 13) _) _
  simp only [Act.put, zT, zZ, zS]
  refine wpTk (i := 11) (v := .pointer (some ⟨m, 0, none⟩)) rfl (Or.inl ⟨by rfl, fun w' hs => by go_simp⟩) SD.out ?_
  change wpAnyH _ _ _ _ _ _ _ (Act.put _ (some 14) _) _
  simp only [Act.put, zT, zZ, zS]
  refine wpTk (i := 12) (v := .pointer (some ⟨m, 0, none⟩)) rfl (Or.inl ⟨by rfl, fun w' hs => by go_simp⟩) SD.out ?_
  change wpAnyH _ _ _ _ _ _ _ (Act.put _ (some 15) _) _
  simp only [Act.put, zT, zZ, zS]
  refine wpTk (i := 13) (v := .pointer (some ⟨m, 0, none⟩)) rfl (Or.inl ⟨by rfl, fun w' hs => by go_simp⟩) SD.out ?_
  change wpAnyH _ _ _ _ _ _ _ (Act.put _ (some 16) _) _
  simp only [Act.put, zT, zZ, zS]
  refine wpTk (i := 14) (v := .pointer (some ⟨m, 17, none⟩)) rfl (Or.inl ⟨by rfl, fun w' hs => by go_simp⟩) SD.out ?_
  change wpAnyH _ _ _ _ _ _ _ (Act.put _ (some 17) _) _
  simp only [Act.put, zT, zZ, zS]
  refine wpTk (i := 15) (v := .slice (some ⟨m, 17, none⟩) 11 11) rfl (Or.inl ⟨by rfl, fun w' hs => by go_simp⟩) SD.out ?_
  change wpAnyH _ _ _ _ _ _ _ (Act.put _ (some 18) _) _
  simp only [Act.put, zT, zZ, zS]
  refine wpTk (i := 17) (v := .pointer (some ⟨m, 0, none⟩)) rfl (Or.inl ⟨by rfl, fun w' hs => by go_simp⟩) SD.out ?_
  change wpAnyH _ _ _ _ _ _ _ (Act.put _ (some 20) _) _
  simp only [Act.put, zT, zZ, zS]
  refine wpTk (i := 18) (v := .pointer (some ⟨m, 0, none⟩)) rfl (Or.inl ⟨by rfl, fun w' hs => by go_simp⟩) SD.out ?_
  change wpAnyH _ _ _ _ _ _ _ (Act.put _ (some 21) _) _
  simp only [Act.put, zT, zZ, zS]
  refine wpTk (i := 19) (v := .pointer (some ⟨m, 28, none⟩)) rfl (Or.inl ⟨by rfl, fun w' hs => by go_simp⟩) SD.out ?_
  change wpAnyH _ _ _ _ _ _ _ (Act.put _ (some 22) _) _
  simp only [Act.put, zT, zZ, zS]
  refine wpTk (i := 20) (v := .bool H.halted) rfl (Or.inl ⟨by rfl, fun w' hs => by go_simp⟩) SD.out ?_
  change wpAnyH _ _ _ _ _ _ _ (Act.put _ (some 23) _) _
  simp only [Act.put, zT, zZ, zS]
  refine wpTk (i := 21) (v := .pointer (some ⟨m, 0, none⟩)) rfl (Or.inl ⟨by rfl, fun w' hs => by go_simp⟩) SD.out ?_
  change wpAnyH _ _ _ _ _ _ _ (Act.put _ (some 24) _) _
  simp only [Act.put, zT, zZ, zS]
  refine wpTk (i := 22) (v := .pointer (some ⟨m, 0, none⟩)) rfl (Or.inl ⟨by rfl, fun w' hs => by go_simp⟩) SD.out ?_
  change wpAnyH _ _ _ _ _ _ _ (Act.put _ (some 25) _) _
  simp only [Act.put, zT, zZ, zS]
  refine wpTk (i := 23) (v := .pointer (some ⟨m, 29, none⟩)) rfl (Or.inl ⟨by rfl, fun w' hs => by go_simp⟩) SD.out ?_
  change wpAnyH _ _ _ _ _ _ _ (Act.put _ (some 26) _) _
  simp only [Act.put, zT, zZ, zS]
  refine wpTk (i := 24) (v := .bool H.waiting) rfl (Or.inl ⟨by rfl, fun w' hs => by go_simp⟩) SD.out ?_
  change wpAnyH _ _ _ _ _ _ _ (Act.put _ (some 27) _) _
  simp only [Act.put, zT, zZ, zS]
  refine wpTk (i := 25) (v := .pointer (some ⟨m, 0, none⟩)) rfl (Or.inl ⟨by rfl, fun w' hs => by go_simp⟩) SD.out ?_
  change wpAnyH _ _ _ _ _ _ _ (Act.put _ (some 28) _) _
  simp only [Act.put, zT, zZ, zS]
  refine wpTk (i := 26) (v := .pointer (some ⟨m, 0, none⟩)) rfl (Or.inl ⟨by rfl, fun w' hs => by go_simp⟩) SD.out ?_
  change wpAnyH _ _ _ _ _ _ _ (Act.put _ (some 29) _) _
  simp only [Act.put, zT, zZ, zS]
  refine wpTk (i := 27) (v := .pointer (some ⟨m, 30, none⟩)) rfl (Or.inl ⟨by rfl, fun w' hs => by go_simp⟩) SD.out ?_
  change wpAnyH _ _ _ _ _ _ _ (Act.put _ (some 30) _) _
  simp only [Act.put, zT, zZ, zS]
  refine wpTk (i := 28) (v := .bool H.rung) rfl (Or.inl ⟨by rfl, fun w' hs => by go_simp⟩) SD.out ?_
  change wpAnyH _ _ _ _ _ _ _ (Act.put _ (some 31) _) _
  simp only [Act.put, zT, zZ, zS]
  refine wpTk (i := 29) (v := .pointer (some ⟨m, 0, none⟩)) rfl (Or.inl ⟨by rfl, fun w' hs => by go_simp⟩) SD.out ?_
  change wpAnyH _ _ _ _ _ _ _ (Act.put _ (some 32) _) _
  simp only [Act.put, zT, zZ, zS]
  refine wpTk (i := 30) (v := .pointer (some ⟨m, 0, none⟩)) rfl (Or.inl ⟨by rfl, fun w' hs => by go_simp⟩) SD.out ?_
  change wpAnyH _ _ _ _ _ _ _ (Act.put _ (some 33) _) _
  simp only [Act.put, zT, zZ, zS]
  refine wpTk (i := 31) (v := .pointer (some ⟨m, 31, none⟩)) rfl (Or.inl ⟨by rfl, fun w' hs => by go_simp⟩) SD.out ?_
  change wpAnyH _ _ _ _ _ _ _ (Act.put _ (some 34) _) _
  simp only [Act.put, zT, zZ, zS]
  refine wpTk (i := 32) (v := .int .i64 H.done) rfl (Or.inl ⟨by rfl, fun w' hs => by go_simp⟩) SD.out ?_
  change wpAnyH _ _ _ _ _ _ _ (Act.put _ (some 35) _) _
  simp only [Act.put, zT, zZ, zS]
  refine wpTk (i := 33) (v := .pointer (some ⟨m, 0, none⟩)) rfl (Or.inl ⟨by rfl, fun w' hs => by go_simp⟩) SD.out ?_
  change wpAnyH _ _ _ _ _ _ _ (Act.put _ (some 36) _) _
  simp only [Act.put, zT, zZ, zS]
  refine wpTk (i := 34) (v := .pointer (some ⟨m, 0, none⟩)) rfl (Or.inl ⟨by rfl, fun w' hs => by go_simp⟩) SD.out ?_
  change wpAnyH _ _ _ _ _ _ _ (Act.put _ (some 37) _) _
  simp only [Act.put, zT, zZ, zS]
  refine wpTk (i := 35) (v := .pointer (some ⟨m, 32, none⟩)) rfl (Or.inl ⟨by rfl, fun w' hs => by go_simp⟩) SD.out ?_
  change wpAnyH _ _ _ _ _ _ _ (Act.put _ (some 38) _) _
  simp only [Act.put, zT, zZ, zS]
  refine wpTk (i := 36) (v := .slice a2 n2 k2) rfl (Or.inl ⟨by rfl, fun w' hs => by go_simp⟩) SD.out ?_
  change wpAnyH _ _ _ _ _ _ _ (Act.put _ (some 39) _) _
  simp only [Act.put, zT, zZ, zS]
  refine wpTk (i := 38) (v := .pointer (some ⟨m, 0, none⟩)) rfl (Or.inl ⟨by rfl, fun w' hs => by go_simp⟩) SD.out ?_
  change wpAnyH _ _ _ _ _ _ _ (Act.put _ (some 41) _) _
  simp only [Act.put, zT, zZ, zS]
  refine wpTk (i := 39) (v := .pointer (some ⟨m, 0, none⟩)) rfl (Or.inl ⟨by rfl, fun w' hs => by go_simp⟩) SD.out ?_
  change wpAnyH _ _ _ _ _ _ _ (Act.put _ (some 42) _) _
  simp only [Act.put, zT, zZ, zS]
  refine wpTk (i := 40) (v := .pointer (some ⟨m, 33, none⟩)) rfl (Or.inl ⟨by rfl, fun w' hs => by go_simp⟩) SD.out ?_
  change wpAnyH _ _ _ _ _ _ _ (Act.put _ (some 43) _) _
  simp only [Act.put, zT, zZ, zS]
  refine wpTk (i := 41) (v := .slice a3 n3 k3) rfl (Or.inl ⟨by rfl, fun w' hs => by go_simp⟩) SD.out ?_
  change wpAnyH _ _ _ _ _ _ _ (Act.put _ (some 44) _) _
  simp only [Act.put, zT, zZ, zS]
  refine zR 5 rfl fun K hK => ?_
  rw [if_pos (by rfl)]
  go_simp
  refine (i_clone (some ⟨m, 0, none⟩) 16 16 H.regs _ (mcr_regs (VS.out _ SD.out) LN.out.1) (by decide)).mono ?_
  rintro e w1 ⟨v1, rfl, m1, b1⟩
  obtain ⟨xa1, xk1, rfl, _⟩ := m1.shape
  have S1 : Hid (Sj W q w1) := SD.out.step LT.out b1
  have N1 : Hid (Nums w1 W.drew.heap.size (.slice xa1 H.regs.length xk1) H.regs) := m1
  have G1 : Hid (W.drew.heap.size ≤ w1.heap.size) := b1.size
  clear m1 b1
  refine hK.out _ _ S1.out (fun _ => ?_)
  clear hK K
  refine zR 16 rfl fun K hK => ?_
  rw [if_pos (by rfl)]
  go_simp
  refine (i_clone (some ⟨m, 17, none⟩) 11 11 H.csr _ (mcr_csr (VS.out _ S1.out) LN.out.2.1) (by decide)).mono ?_
  rintro e w2 ⟨v2, rfl, m1, b1⟩
  obtain ⟨xa2, xk2, rfl, _⟩ := m1.shape
  have S2 : Hid (Sj W q w2) := S1.out.step LT.out b1
  have N2 : Hid (Nums w2 w1.heap.size (.slice xa2 H.csr.length xk2) H.csr) := m1
  have G2 : Hid (w1.heap.size ≤ w2.heap.size) := b1.size
  have H2 : Hid (Ho W.heap.size w1 w2) := Ho.of b1
  clear m1 b1
  refine hK.out _ _ S2.out (fun _ => ?_)
  clear hK K
  refine zR 37 rfl fun K hK => ?_
  rw [if_pos (by rfl)]
  go_simp
  refine (i_clone a2 n2 k2 H.inn _ (IS.out _ S2.out) (by have := LN.out.2.2.1; omega)).mono ?_
  rintro e w3 ⟨v3, rfl, m1, b1⟩
  obtain ⟨xa3, xk3, rfl, _⟩ := m1.shape
  have S3 : Hid (Sj W q w3) := S2.out.step LT.out b1
  have N3 : Hid (Nums w3 w2.heap.size (.slice xa3 H.inn.length xk3) H.inn) := m1
  have G3 : Hid (w2.heap.size ≤ w3.heap.size) := b1.size
  have H3 : Hid (Ho W.heap.size w2 w3) := Ho.of b1
  clear m1 b1
  refine hK.out _ _ S3.out (fun _ => ?_)
  clear hK K
  refine zR 42 rfl fun K hK => ?_
  rw [if_pos (by rfl)]
  go_simp
  refine (i_clone a3 n3 k3 H.out _ (OS.out _ S3.out) (by have := LN.out.2.2.2; omega)).mono ?_
  rintro e w4 ⟨v4, rfl, m1, b1⟩
  obtain ⟨xa4, xk4, rfl, _⟩ := m1.shape
  have S4 : Hid (Sj W q w4) := S3.out.step LT.out b1
  have N4 : Hid (Nums w4 w3.heap.size (.slice xa4 H.out.length xk4) H.out) := m1
  have G4 : Hid (w3.heap.size ≤ w4.heap.size) := b1.size
  have H4 : Hid (Ho W.heap.size w3 w4) := Ho.of b1
  clear m1 b1
  refine hK.out _ _ S4.out (fun _ => ?_)
  clear hK K
  refine wpTk (i := 43) (v := .agg #[.slice xa1 H.regs.length xk1, .int .i64 H.pc, .slice xa2 H.csr.length xk2, .bool H.halted, .bool H.waiting, .bool H.rung, .int .i64 H.done, .slice xa3 H.inn.length xk3, .slice xa4 H.out.length xk4]) rfl (Or.inl ⟨by rfl, fun w' hs => by go_simp⟩) S4.out ?_
  change wpAnyH _ _ _ _ _ _ _ (Act.put _ (some 46) _) _
  simp only [Act.put, zT, zZ, zS]
  refine zR 44 rfl fun K hK => ?_
  rw [if_pos (by rfl)]
  refine wp_store_mid 26 (.tmp 2) (.tmp 46) rfl q 0 #[.slice xa1 H.regs.length xk1, .int .i64 H.pc, .slice xa2 H.csr.length xk2, .bool H.halted, .bool H.waiting, .bool H.rung, .int .i64 H.done, .slice xa3 H.inn.length xk3, .slice xa4 H.out.length xk4] rfl rfl S4.out.2 (by kernel_rfl) (by simp [Value.oneCell']) ?_
  change K (Act.put _ none undef) (World.setCells w4 q 0 [.slice xa1 H.regs.length xk1, .int .i64 H.pc, .slice xa2 H.csr.length xk2, .bool H.halted, .bool H.waiting, .bool H.rung, .int .i64 H.done, .slice xa3 H.inn.length xk3, .slice xa4 H.out.length xk4])
  simp only [Act.put]
  have S5 : Hid (Sj W q (w4.setCells q 0 [.slice xa1 H.regs.length xk1, .int .i64 H.pc, .slice xa2 H.csr.length xk2, .bool H.halted, .bool H.waiting, .bool H.rung, .int .i64 H.done, .slice xa3 H.inn.length xk3, .slice xa4 H.out.length xk4])) := S4.out.set _
  have R5 : Hid ((w4.setCells q 0 [.slice xa1 H.regs.length xk1, .int .i64 H.pc, .slice xa2 H.csr.length xk2, .bool H.halted, .bool H.waiting, .bool H.rung, .int .i64 H.done, .slice xa3 H.inn.length xk3, .slice xa4 H.out.length xk4]).rangeAt q 0 [.slice xa1 H.regs.length xk1, .int .i64 H.pc, .slice xa2 H.csr.length xk2, .bool H.halted, .bool H.waiting, .bool H.rung, .int .i64 H.done, .slice xa3 H.inn.length xk3, .slice xa4 H.out.length xk4]) := World.rangeAt_setCells_same _ _ _ _ S4.out.2
  have H5 : Hid (Ho W.heap.size w4 (w4.setCells q 0 [.slice xa1 H.regs.length xk1, .int .i64 H.pc, .slice xa2 H.csr.length xk2, .bool H.halted, .bool H.waiting, .bool H.rung, .int .i64 H.done, .slice xa3 H.inn.length xk3, .slice xa4 H.out.length xk4])) := (mq_cells q _ w4 0).ho fun k e => by have := LT.out; omega
  generalize w4.setCells q 0 [.slice xa1 H.regs.length xk1, .int .i64 H.pc, .slice xa2 H.csr.length xk2, .bool H.halted, .bool H.waiting, .bool H.rung, .int .i64 H.done, .slice xa3 H.inn.length xk3, .slice xa4 H.out.length xk4] = w5 at *
  refine hK.out _ _ S5.out (fun _ => ?_)
  clear hK K
  refine wpAnyH_done (by kernel_rfl) ?_ _
  have E1 : W.heap.size ≤ w1.heap.size := S1.out.1.size
  have E2 : W.heap.size ≤ w2.heap.size := S2.out.1.size
  have E3 : W.heap.size ≤ w3.heap.size := S3.out.1.size
  have Q1 : Nums w5 W.heap.size (.slice xa1 H.regs.length xk1) H.regs := Nums.ho (show Nums w1 W.heap.size _ H.regs from N1.out) (H2.out.trans (H3.out.trans (H4.out.trans H5.out)))
  have Q2 : Nums w5 W.heap.size (.slice xa2 H.csr.length xk2) H.csr := (N2.out.mono E1).ho (H3.out.trans (H4.out.trans H5.out))
  have Q3 : Nums w5 W.heap.size (.slice xa3 H.inn.length xk3) H.inn := (N3.out.mono E2).ho (H4.out.trans H5.out)
  have Q4 : Nums w5 W.heap.size (.slice xa4 H.out.length xk4) H.out := (N4.out.mono E3).ho H5.out
  have A12 := N1.out.apt N2.out (Nat.le_refl _)
  have A13 := N1.out.apt N3.out G2.out
  have A14 := N1.out.apt N4.out (Nat.le_trans G2.out G3.out)
  have A23 := N2.out.apt N3.out (Nat.le_refl _)
  have A24 := N2.out.apt N4.out G3.out
  have A34 := N3.out.apt N4.out (Nat.le_refl _)
  have B5 : Below w.heap.size w w5 := Mq.under B0.out S5.out.1 fun k e => by have := HQ.out; omega
  have LD := run_loadVar_mid (P := Tryz.prog) w5 q 0 26 [.slice xa1 H.regs.length xk1, .int .i64 H.pc, .slice xa2 H.csr.length xk2, .bool H.halted, .bool H.waiting, .bool H.rung, .int .i64 H.done, .slice xa3 H.inn.length xk3, .slice xa4 H.out.length xk4] _ R5.out Tryz.underlying26 rfl (by kernel_rfl)
  clear q16 q28 q29 q30 q31 q32 q33
  go_wp2_with fail
  exact bodyPost_ret (v := .agg #[.slice xa1 H.regs.length xk1, .int .i64 H.pc, .slice xa2 H.csr.length xk2, .bool H.halted, .bool H.waiting, .bool H.rung, .int .i64 H.done, .slice xa3 H.inn.length xk3, .slice xa4 H.out.length xk4]) (by simp [results, Tryz.results78, asAddr]; rw [LD]) rfl
    ⟨_, _, _, _, rfl, ⟨Q1.mono B0.out.size, Q2.mono B0.out.size, Q3.mono B0.out.size, Q4.mono B0.out.size⟩, ⟨A12, A13, A14, A23, A24, A34⟩, B5⟩
end Go.Proofs.YtaefollmeoepkaaGreatDoor
