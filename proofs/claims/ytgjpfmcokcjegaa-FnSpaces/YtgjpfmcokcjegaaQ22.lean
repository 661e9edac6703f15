/- Texts of this seat, joined. -/
import Derived.Test.YtgjpfmcokcjegaaQ09
import Derived.Test.YtgjpfmcokcjegaaQ18
namespace Go.Proofs.Ytgjpfmcokcjegaa
open Go.RowKit
set_option linter.unusedVariables false
theorem Pags.store {w : World} {base g p cap : Nat} {zs : List Int} (h : Pags w base (.slice (some ⟨g, 0, none⟩) p cap) p zs) (j : Nat) (x : Int) :
    Pags (w.setCell ⟨g, j, none⟩ (.int .i64 x)) base (.slice (some ⟨g, 0, none⟩) p cap) p (zs.set j x) := by
  obtain ⟨h1, h2⟩ := World.ownsRow.stored h j (.int .i64 x)
  unfold Pags
  rw [List.map_set]
  exact h1
theorem Pags.free {w : World} {base g p cap : Nat} {zs : List Int} (h : Pags w base (.slice (some ⟨g, 0, none⟩) p cap) p zs) (j : Nat) : w.frozen? ⟨g, j, none⟩ = false := World.ownsRow.frozenAt h j
theorem Pags.lt {w : World} {base g p cap : Nat} {zs : List Int} (h : Pags w base (.slice (some ⟨g, 0, none⟩) p cap) p zs) : base ≤ g ∧ g < w.heap.size := World.ownsRow.lt h g rfl
theorem Nums.empty (w : World) (base : Nat) (hb : base ≤ w.heap.size) : Nums (w.alloc (.cells #[] 2)) base (.slice (some ⟨w.heap.size, 0, none⟩) 0 0) [] :=
  World.ownsRow_lit w #[] 0 hb (by decide) rfl
theorem cell_g {w w' : World} {row : Option Nat} {p : Addr} {v : Value} (g : w.grownBy w' row) (h : w.cell? p = some v) (hne : some p.block ≠ row) : w'.cell? p = some v := cell_grown g h hne
theorem Nums.turn {w w' : World} {base b : Nat} {v : Value} {zs : List Int} (h : Nums w base v zs) (t : Turn b w w') (hb : b < base) : Nums w' base v zs := by
  refine h.kept (row := some b) ⟨t.os, t.tape, t.output, t.size, fun k hk hn => t.block k hk (fun e => hn (by rw [e]))⟩ (.inr fun e => ?_)
  have := (h.lt b e).1
  omega
theorem Turn.grownM {b : Nat} {w0 w w' : World} {row : Option Nat} (t : Turn b w0 w) (g : w.grownBy w' row) (hr : ∀ k, row = some k → w0.heap.size ≤ k) : Turn b w0 w' :=
  ⟨g.os.trans t.os, g.tape.trans t.tape, g.output.trans t.output, Nat.le_trans t.size g.size, fun k hk hb => (g.block k (Nat.lt_of_lt_of_le hk t.size) (fun e => by have := hr k e.symm; omega)).trans (t.block k hk hb)⟩
theorem Src.grownM {w w' : World} {b k : Nat} {a : Option Addr} {len cap : Nat} {zs : List Int} {row : Option Nat} (s : Src w b k a len cap zs) (g : w.grownBy w' row) (hr : ∀ k, row = some k → b < k) : Src w' b k a len cap zs := by
  have h := s.here
  have hne : ∀ p : Nat, p ≤ b → some p ≠ row := fun p hp e => by have := hr p e.symm; omega
  refine ⟨cell_g g s.code (hne b (Nat.le_refl _)), cell_g g s.count (hne b (Nat.le_refl _)), ?_, ?_, s.away, Nat.lt_of_lt_of_le h g.size⟩
  · rw [← s.free]
    exact World.frozen?_of_block (w := w) (g.block b h (hne b (Nat.le_refl _)))
  · rcases s.row with h | ⟨x, rfl, h1, h2, h3, h4, h5⟩
    · exact .inl h
    · refine .inr ⟨x, rfl, h1, h2, h3, fun i hi => ?_, h5⟩
      have hx := s.away x rfl (by omega)
      exact cell_g g (h4 i hi) (by rw [src_block]; exact hne _ (by omega))
theorem field_mem (x y : Value) (w : World) : (Instr.field 81 (.agg #[x, y]) 1).run Try.prog w = .ok y w := by kernel_rfl
def DrawnM (w : World) (base : Nat) (v : Value) : Prop := (∃ zs, Nums w base v zs ∧ zs.length ≤ 200) ∨ ∃ a n cap, v = .slice a n cap ∧ n ≤ 200 ∧ formB n = false
set_option maxHeartbeats 2000000 in
theorem mem_any {w : World} {b k : Nat} {a : Option Addr} {len cap : Nat} {zs : List Int} (s : Src w b k a len cap zs) (hk : k ≤ 50000) :
    Calls Try.prog 36 #[.pointer (some ⟨b, 0, none⟩)] w fun e w' => ∃ v k', e = .returned v ∧ DrawnM w' w.heap.size v ∧ k' ≤ k + 1000 ∧ Turn b w w' ∧ Src w' b k' a len cap zs := by
  have hfield := field_mem
  have HB : Hid (b < w.heap.size) := s.here
  go_enter Try.func36, Try.ntmps36
  go_wp2_with fail
  refine (next_any s (by omega) _).mono ?_
  rintro e w1 ⟨v1, rfl, h1, -, t1, s1⟩
  obtain ⟨l1, u1⟩ := h1 (by omega)
  clear h1
  obtain ⟨p, hp⟩ : ∃ p : Nat, 1 + v1 = p := ⟨(1 + v1).toNat, by omega⟩
  have hp1 : 1 ≤ (p : Int) ∧ (p : Int) ≤ 5 := by omega
  have fn := fun w => spec_new (p : Int) w
  rw [show newC (p : Int) = 0 by simp only [newC]; rw [if_pos (by omega)], show newZ (p : Int) = List.replicate (p * 8) 0 by simp only [newZ]; rw [if_pos (by omega), Int.toNat_natCast]] at fn
  have HP : Hid (1 ≤ p ∧ p ≤ 5) := ⟨by omega, by omega⟩
  have T1 : Hid (Turn b w w1) := t1
  have S1 : Hid (Src w1 b _ a len cap zs) := s1
  clear t1 s1 hp1
  go_wp2_with fail
  refine (fn _).mono ?_
  rintro e w2 ⟨v, rfl, n2, b2⟩
  have N2 : Hid (Nums w2 w.heap.size v _) := n2.mono T1.out.size
  have T2 : Hid (Turn b w w2) := T1.out.trans (Turn.of_below b2)
  have S2 : Hid (Src w2 b (k + 1) a len cap zs) := S1.out.grownM (row := none) (below_grown b2 none) (by simp)
  clear n2 b2 fn
  obtain ⟨av, cv, rfl, _, _, hg⟩ := N2.out.shape
  obtain ⟨g, rfl⟩ := hg (by have := HP.out; simp; omega)
  rw [List.length_replicate] at N2 ⊢
  obtain ⟨n, hn⟩ : ∃ n, p * 8 = n := ⟨_, rfl⟩
  rw [hn] at N2 ⊢
  have HN : Hid (p * 8 = n) := hn
  have hn40 : (n : Int) ≤ 40 := by have := HP.out; omega
  clear hn hg u1 l1 hp
  go_wp2_with fail
  go_loopw [4] (fun c wr => ∃ (j k' : Nat) (ms : List Int), j ≤ n ∧ c = .int .i64 j ∧ ms.length = n ∧ k' ≤ k + 1 + 6 * j ∧ Nums wr w.heap.size (.slice (some ⟨g, 0, none⟩) n cv) ms ∧ Turn b w wr ∧ Src wr b k' a len cap zs) (fun c _ => n - (intOf c).toNat)
  case atStart => exact ⟨0, k + 1, _, Nat.zero_le _, rfl, by simp, by omega, N2.out, T2.out, S2.out⟩
  case round =>
    obtain ⟨j, k', ms, hj, rfl, hms, hk', hN, hT, hS⟩ := hrel
    have NJ : Hid (Nums wr w.heap.size _ ms) := hN
    have TJ : Hid (Turn b w wr) := hT
    have SJ : Hid (Src wr b k' a len cap zs) := hS
    have HMS : Hid (ms.length = n) := hms
    have HK' : Hid (k' ≤ k + 1 + 6 * j ∧ k ≤ 50000 ∧ j ≤ n ∧ n ≤ 40) := ⟨hk', hk, hj, by omega⟩
    clear hN hT hS hms hk' N2 T2 S2
    by_cases hlt : j < n
    · have hJ : (j : Int) < (n : Int) := by omega
      have HLT : Hid (j < n) := hlt
      clear hlt
      go_wp2_with fail
      refine (chance_any SJ.out (by have := HK'.out; omega) _).mono ?_
      rintro e w3 ⟨c3, rfl, t3, s3⟩
      have N3 : Hid (Nums w3 w.heap.size _ ms) := NJ.out.turn t3 HB.out
      have T3 : Hid (Turn b w w3) := TJ.out.trans t3
      have S3 : Hid (Src w3 b _ a len cap zs) := s3
      clear t3 s3
      cases c3
      · go_wp2_with fail
        go_roundw
        case rel => exact ⟨j + 1, k' + 1, ms, by have := HLT.out; omega, by go_num, HMS.out, by have := HK'.out; omega, N3.out, T3.out, S3.out⟩
        case measure => have := HLT.out; simp [intOf]; omega
      · go_wp2_with fail
        refine (word_any S3.out (by have := HK'.out; omega)).mono ?_
        rintro e w4 ⟨v4, rfl, h4, t4, s4⟩
        have N4 : Hid (Nums w4 w.heap.size _ ms) := N3.out.turn t4 HB.out
        have T4 : Hid (Turn b w w4) := T3.out.trans t4
        have S4 : Hid (Src w4 b _ a len cap zs) := s4
        have c4 := N4.out.cell HMS.out.symm j HLT.out
        have f4 := N4.out.free HMS.out.symm j
        clear t4 s4
        go_wp2_with fail
        go_roundw
        case rel =>
          obtain ⟨m1, m2⟩ := N4.out.store j v4
          refine ⟨j + 1, k' + 1 + 5, ms.set j v4, by have := HLT.out; omega, by go_num, by rw [List.length_set]; exact HMS.out, by have := HK'.out; omega, m1, ?_, ?_⟩
          · exact T4.out.grownM m2 (fun q hq => by have := (N4.out.lt q hq).1; omega)
          · exact S4.out.grownM m2 (fun q hq => by have := (N4.out.lt q hq).1; have := HB.out; omega)
        case measure => have := HLT.out; simp [intOf]; omega
    · have hJ : ¬ (j : Int) < (n : Int) := by omega
      clear hlt
      go_wp2_with fail
      refine (next_any SJ.out (by have := HK'.out; omega) _).mono ?_
      rintro e w3 ⟨v3, rfl, -, -, t3, s3⟩
      have N3 : Hid (Nums w3 w.heap.size _ ms) := NJ.out.turn t3 HB.out
      have T3 : Hid (Turn b w w3) := TJ.out.trans t3
      have S3 : Hid (Src w3 b _ a len cap zs) := s3
      clear t3 s3 NJ TJ SJ
      by_cases e0 : v3 = 0
      · subst e0
        have hn1 : (1 : Int) ≤ (n : Int) := by have := HN.out; have := HP.out; omega
        have hcn : (n : Int) ≤ (cv : Int) := by have := N3.out.lens.1; omega
        have hc1 : ¬ cv = 1 := by have := N3.out.lens.1; have := HN.out; have := HP.out; omega
        go_wp2_with fail
        go_ret
        exact ⟨_, _, rfl, .inr ⟨_, _, _, rfl, by have := HK'.out; omega, by have := HN.out; have := HP.out; simp only [formB, decide_eq_false_iff_not]; omega⟩, by have := HK'.out; omega, T3.out, S3.out⟩
      by_cases e1 : v3 = 1
      · subst e1
        go_wp2_with fail
        refine (next_any S3.out (by have := HK'.out; omega) _).mono ?_
        rintro e w4 ⟨v4, rfl, h4, -, t4, s4⟩
        have N4 : Hid (Nums w4 w.heap.size _ ms) := N3.out.turn t4 HB.out
        have T4 : Hid (Turn b w w4) := T3.out.trans t4
        have S4 : Hid (Src w4 b _ a len cap zs) := s4
        obtain ⟨l4, u4⟩ := h4 (by have := HN.out; have := HP.out; omega)
        clear t4 s4 h4
        obtain ⟨q, rfl⟩ : ∃ q : Nat, v4 = q := ⟨v4.toNat, by omega⟩
        go_wp2_with fail
        have hbb := S4.out.here
        refine (pick_any (S4.out.alloc _) (by have := HK'.out; omega) isWide _ 2 (by omega) (by omega) (by simp) (by omega) ?_).mono ?_
        · intro i hi
          have : i = 0 ∨ i = 1 := by omega
          rcases this with rfl | rfl
          all_goals exact ⟨_, cell_new rfl, by unfold isWide; omega⟩
        rintro e w5 ⟨v5, rfl, -, t5, s5⟩
        have N5 : Hid (Nums w5 w.heap.size _ ms) := (N4.out.keep (al (Below.refl _ _) _)).turn t5 HB.out
        have T5 : Hid (Turn b w w5) := (T4.out.trans (Turn.alloc b w4 _)).trans t5
        have S5 : Hid (Src w5 b _ a len cap zs) := s5
        have HQ : Hid (q < n) := by show _ < _; omega
        have hqn : (q : Int) < (n : Int) := by omega
        have c5 := N5.out.cell HMS.out.symm q HQ.out
        have f5 := N5.out.free HMS.out.symm q
        clear t5 s5
        go_wp2_with fail
        go_ret
        obtain ⟨m1, m2⟩ := N5.out.store q v5
        refine ⟨_, _, rfl, .inl ⟨_, m1, by rw [List.length_set]; have := HMS.out; have := HK'.out; omega⟩, ?_, T5.out.grownM m2 (fun r hr => by have := (N5.out.lt r hr).1; omega), S5.out.grownM m2 (fun r hr => by have := (N5.out.lt r hr).1; have := HB.out; omega)⟩
        have := HK'.out
        omega
      by_cases e2 : v3 = 2
      · subst e2
        obtain ⟨ii, hi, hz0, hz1, hz2⟩ := info_parts info_i64
        go_wp2_with (at_make; refine wpList_make_full _ rfl _ _ 24 rfl w.heap.size 2 ii _ 1 Try.underlying24 hi hz0 hz1 _ _ _ _ 200 rfl rfl rfl rfl (by rw [hz2]; omega) (by unfold maxLen; omega) T3.out.size ?_; intro w4 hown hgrow)
        have N4 : Hid (Nums w4 w.heap.size _ (List.replicate 200 0)) := Nums.made hown (by rw [Nat.mul_one, show (Value.int .i64 0).cells = #[.int .i64 0] from rfl, toList_madeCells_one, List.map_replicate])
        have T4 : Hid (Turn b w w4) := T3.out.grownM hgrow (by simp)
        have S4 : Hid (Src w4 b _ a len cap zs) := S3.out.grownM hgrow (by simp)
        clear hown hgrow
        go_wp2_with fail
        go_ret
        exact ⟨_, _, rfl, .inl ⟨_, N4.out, by rw [List.length_replicate]; exact Nat.le_refl _⟩, by have := HK'.out; omega, T4.out, S4.out⟩
      · have g0 : (v3 == 0) = false := beq_eq_false_iff_ne.2 e0
        have g1 : (v3 == 1) = false := beq_eq_false_iff_ne.2 e1
        have g2 : (v3 == 2) = false := beq_eq_false_iff_ne.2 e2
        clear e0 e1 e2
        go_wp2_with fail
        go_ret
        exact ⟨_, _, rfl, .inl ⟨_, N3.out, by have := HMS.out; have := HK'.out; omega⟩, by have := HK'.out; omega, T3.out, S3.out⟩
end Go.Proofs.Ytgjpfmcokcjegaa
