/- Texts of this seat, joined. -/
import Derived.Test.YtgjpfmcokcjegaaQ18
import Derived.Test.YtgjpfmcokcjegaaQ22
import Derived.Test.YtgjpfmcokcjegaaQ23
namespace Go.Proofs.Ytgjpfmcokcjegaa
open Go.RowKit
set_option linter.unusedVariables false
theorem Turn.grown {b : Nat} {w w' : World} (t : Turn b w w') : w.grownBy w' (some b) := ⟨t.os, t.tape, t.output, t.size, fun k hk hn => t.block k hk (fun e => hn (by rw [e]))⟩
theorem Prs.turn {e : TypeId} {w w' : World} {base b : Nat} {v : Value} {rs : List (Int × Int)} (h : Prs e w base v rs) (t : Turn b w w') (hb : b < base) : Prs e w' base v rs :=
  h.kept t.grown (.inr fun e => by have := (h.lt b e).1; omega)
theorem Prs.empty {w : World} (base g : Nat) (h : w.heap[g]? = some (.cells #[] 73 (0, 0))) (hb : base ≤ g) : Prs 73 w base (.slice (some ⟨g, 0, none⟩) 0 0) [] :=
  ⟨rfl, .inr ⟨g, 0, #[], rfl, hb, h, Nat.le_refl _, by decide, rfl, rfl⟩⟩
theorem Turn.of_grown {b base : Nat} {a w w' : World} {v : Value} {rs : List (Int × Int)} {e : TypeId} (t : Turn b a w) (h : Prs e w base v rs) (hb : a.heap.size ≤ base) (g : w.grownBy w' v.ownBlock) : Turn b a w' :=
  ⟨g.os.trans t.os, g.tape.trans t.tape, g.output.trans t.output, Nat.le_trans t.size g.size, fun k hk hn => by
    rw [g.block k (Nat.lt_of_lt_of_le hk t.size) (fun e => by have := (h.lt k e.symm).1; omega)]
    exact t.block k hk hn⟩
theorem Src.gr {w w' : World} {b k : Nat} {a : Option Addr} {len cap : Nat} {zs : List Int} {row : Option Nat} (s : Src w b k a len cap zs) (g : w.grownBy w' row) (hn : ∀ x, x ≤ b → some x ≠ row) : Src w' b k a len cap zs := by
  have hh := s.here
  refine ⟨cell_grown g s.code (hn b (Nat.le_refl _)), cell_grown g s.count (hn b (Nat.le_refl _)), ?_, ?_, s.away, Nat.lt_of_lt_of_le hh g.size⟩
  · rw [World.frozen?_of_block (w := w) (g.block b hh (hn b (Nat.le_refl _)))]; exact s.free
  · rcases s.row with h0 | ⟨x, rfl, h1, h2, h3, h4, h5⟩
    · exact .inl h0
    · refine .inr ⟨x, rfl, h1, h2, h3, fun i hi => cell_grown g (h4 i hi) ?_, h5⟩
      have hx := s.away x rfl (by omega)
      rw [src_block]
      exact hn _ (by omega)
theorem Src.grown {w w' : World} {b k base : Nat} {a : Option Addr} {len cap : Nat} {zs : List Int} {v : Value} {rs : List (Int × Int)} {e : TypeId} (s : Src w b k a len cap zs) (h : Prs e w base v rs) (hb : b < base) (g : w.grownBy w' v.ownBlock) : Src w' b k a len cap zs :=
  s.gr g fun x hx e => by have := (h.lt x e.symm).1; omega
theorem Src.put {w : World} {b k : Nat} {a : Option Addr} {len cap : Nat} {zs : List Int} (s : Src w b k a len cap zs) (p : Addr) (u : Value) (hp : b < p.block) : Src (w.setCell p u) b k a len cap zs :=
  s.gr (grown_set w p u) fun x hx e => by have := Option.some.inj e; omega
theorem Turn.put {b : Nat} {a w : World} (t : Turn b a w) (p : Addr) (u : Value) (hp : a.heap.size ≤ p.block) : Turn b a (w.setCell p u) :=
  ⟨t.os, t.tape, t.output, by have := t.size; simpa [World.setCell] using this, fun k hk hn => by rw [heap_setCell_other w p k u (by omega)]; exact t.block k hk hn⟩
theorem cell_at {w : World} {cs : Array Value} {t : TypeId} {i n : Nat} {v : Value} (hn : w.heap.size = n) (h : cs[i]? = some v) : (w.alloc (.cells cs t)).cell? ⟨n, i, none⟩ = some v := by
  subst hn
  exact cell_new h
set_option maxHeartbeats 2000000 in
theorem pages_any {w : World} {b k : Nat} {a : Option Addr} {len cap : Nat} {zs : List Int} (s : Src w b k a len cap zs) (hk : k ≤ 90000) (top : Int) :
    Calls Try.prog 57 #[.pointer (some ⟨b, 0, none⟩), .int .i64 top] w fun e w' => ∃ (v : Value) (rs : List (Int × Int)), e = .returned v ∧ rs.length = 8 ∧ Prs 73 w' w.heap.size v rs ∧ Turn b w w' ∧ Src w' b (k + 24) a len cap zs := by
  have hb := s.here
  have HS : Hid (Src w b k a len cap zs) := s
  have HK : Hid (k ≤ 90000) := hk
  clear s hk
  go_enter Try.func57, Try.ntmps57
  go_wp2_with fail
  go_loopw [5, 6, 7] (fun y c _ wr => ∃ (j : Nat) (rs : List (Int × Int)), j ≤ 8 ∧ c = .int .i64 j ∧ rs.length = j ∧ Prs 73 wr w.heap.size y rs ∧ Turn b w wr ∧ Src wr b (k + 3 * j) a len cap zs) (fun _ c _ _ => 8 - (intOf c).toNat)
  case atStart => exact ⟨0, [], Nat.zero_le _, rfl, rfl, Prs.empty _ _ (heap_alloc_new _ _) (Nat.le_refl _), Turn.alloc _ _ _, HS.out.alloc _⟩
  case round =>
    obtain ⟨j, rs, hj, rfl, hl, hP, hT, hS⟩ := hrel
    have PB : Hid (Prs 73 wr w.heap.size _ rs) := hP
    have TB : Hid (Turn b w wr) := hT
    have SB : Hid (Src wr b (k + 3 * j) a len cap zs) := hS
    have LR : Hid (rs.length = j) := hl
    obtain ⟨ya, yc, rfl, _, _, _⟩ := hP.shape
    generalize hun : rs.length = un at *
    clear hP hT hS
    by_cases hlt : j < 8
    · have hI : (j : Int) < 8 := by omega
      have HL : Hid (j < 8) := hlt
      clear hlt hl
      go_wp2_with fail
      refine (next_any SB.out (by have := HK.out; omega) _).mono ?_
      rintro e w2 ⟨v2, rfl, -, -, t2, s2⟩
      go_wp2_with fail
      have h2 := s2.here
      refine (pick_any (s2.alloc _) (by have := HK.out; omega) (fun _ => True) _ 6 (by omega) (by omega) (by simp) (by omega) ?_).mono ?_
      · intro i hi
        have : i = 0 ∨ i = 1 ∨ i = 2 ∨ i = 3 ∨ i = 4 ∨ i = 5 := by omega
        rcases this with rfl | rfl | rfl | rfl | rfl | rfl
        all_goals exact ⟨_, cell_new rfl, trivial⟩
      rintro e w3 ⟨v3, rfl, -, t3, s3⟩
      have T3 : Hid (Turn b wr w3) := t2.trans ((Turn.alloc _ w2 _).trans t3)
      have S3 : Hid (Src w3 b (k + 3 * j + 1 + 1) a len cap zs) := s3
      have h3 := s3.here
      clear t2 s2 t3 s3
      go_wp2_with fail
      refine (chance_any (S3.out.alloc _) (by have := HK.out; omega) _).mono ?_
      rintro e w4 ⟨v4, rfl, t4, s4⟩
      have q0 : w4.cell? ⟨w3.heap.size, 0, none⟩ = some (.int .i64 v2) := by rw [t4.cell (p := ⟨w3.heap.size, 0, none⟩) (by simp) (by show w3.heap.size ≠ b; omega)]; exact cell_new rfl
      have q1 : w4.cell? ⟨w3.heap.size, 1, none⟩ = some (.int .i64 v3) := by rw [t4.cell (p := ⟨w3.heap.size, 1, none⟩) (by simp) (by show w3.heap.size ≠ b; omega)]; exact cell_new rfl
      have z0 : w4.frozen? ⟨w3.heap.size, 0, none⟩ = false := by rw [t4.frozen (p := ⟨w3.heap.size, 0, none⟩) (by simp) (by show w3.heap.size ≠ b; omega)]; simp
      have z1 : w4.frozen? ⟨w3.heap.size, 1, none⟩ = false := by rw [t4.frozen (p := ⟨w3.heap.size, 1, none⟩) (by simp) (by show w3.heap.size ≠ b; omega)]; simp
      have T4 : Hid (Turn b wr w4) := T3.out.trans ((Turn.alloc _ w3 _).trans t4)
      have S4 : Hid (Src w4 b (k + 3 * (j + 1)) a len cap zs) := by
        show Src _ _ _ _ _ _ _
        have : k + 3 * (j + 1) = k + 3 * j + 1 + 1 + 1 := by omega
        rw [this]
        exact s4
      have s34 : w3.heap.size < w4.heap.size := block_of_cell q0
      have sW : w.heap.size ≤ w3.heap.size := Nat.le_trans TB.out.size T3.out.size
      have SW : Hid (w.heap.size ≤ w3.heap.size ∧ w3.heap.size < w4.heap.size) := ⟨sW, s34⟩
      have SWR : Hid (wr.heap.size ≤ w3.heap.size) := T3.out.size
      have P4 : Hid (Prs 73 w4 w.heap.size (.slice ya un yc) rs) := PB.out.turn T4.out hb
      have TT4 : Hid (Turn b w w4) := TB.out.trans T4.out
      clear t4 s4 S3 T3 T4
      cases v4
      · go_wp2_with (at_builtin; refine wp_pair 27 73 Try.underlying27 info_page _ rfl _ _ rfl w.heap.size _ _ rfl (P4.out.keep (al (Below.refl _ _) _)) _ v2 v3 rfl (cell_new rfl) (cell_new rfl) (by rw [hun]; have := LR.out; have := HL.out; omega) (by have := SW.out; simp; omega) ?_; intro v' w' hP' hG')
        have PP : Hid (Prs 73 w' w.heap.size v' (rs ++ [(v2, v3)])) := hP'
        have TP : Hid (Turn b w w') := (TT4.out.trans (Turn.alloc _ _ _)).of_grown (P4.out.keep (al (Below.refl _ _) _)) (Nat.le_refl _) hG'
        have SP : Hid (Src w' b (k + 3 * (j + 1)) a len cap zs) := (S4.out.alloc _).grown (P4.out.keep (al (Below.refl _ _) _)) hb hG'
        clear hP' hG'
        go_wp2_with fail
        go_roundw
        case rel => exact ⟨j + 1, _, by have := HL.out; omega, by go_num, by rw [List.length_append, hun]; simp; exact LR.out, PP.out, TP.out, SP.out⟩
        case measure => have := HL.out; simp [intOf]; omega
      · go_wp2_with fail
        refine (spec_none _).mono ?_
        rintro e w5 ⟨rfl, b5⟩
        have q0 := cell_keep b5 q0
        have q1 := cell_keep b5 q1
        have z0 : w5.frozen? ⟨w3.heap.size, 0, none⟩ = false := by rw [b5.frozen (p := ⟨w3.heap.size, 0, none⟩) s34]; exact z0
        have z1 : w5.frozen? ⟨w3.heap.size, 1, none⟩ = false := by rw [b5.frozen (p := ⟨w3.heap.size, 1, none⟩) s34]; exact z1
        have P5 : Hid (Prs 73 w5 w.heap.size (.slice ya un yc) rs) := P4.out.keep b5
        have hnp : Hid ((Value.slice ya un yc).ownBlock ≠ some w3.heap.size) := fun e => by
          have := (PB.out.lt _ e).2
          have := SWR.out
          omega
        have PQ : Hid (Prs 73 ((w5.setCell ⟨w3.heap.size, 0, none⟩ (.int .i64 (-1))).setCell ⟨w3.heap.size, 1, none⟩ (.int .i64 0)) w.heap.size (.slice ya un yc) rs) := (P5.out.put _ _ hnp.out).put _ _ hnp.out
        have TQ : Hid (Turn b w ((w5.setCell ⟨w3.heap.size, 0, none⟩ (.int .i64 (-1))).setCell ⟨w3.heap.size, 1, none⟩ (.int .i64 0))) := ((TT4.out.trans (Turn.of_below b5)).put _ _ sW).put _ _ sW
        have SQ : Hid (Src ((w5.setCell ⟨w3.heap.size, 0, none⟩ (.int .i64 (-1))).setCell ⟨w3.heap.size, 1, none⟩ (.int .i64 0)) b (k + 3 * (j + 1)) a len cap zs) := ((S4.out.turn (Turn.of_below (b := w4.heap.size) b5) (Nat.le_refl _)).put _ _ h3).put _ _ h3
        have s5 : Hid (w3.heap.size < w5.heap.size) := block_of_cell q0
        clear b5
        go_wp2_with (at_builtin; refine wp_pair 27 73 Try.underlying27 info_page _ rfl _ _ rfl w.heap.size _ _ rfl (PQ.out.keep (al (Below.refl _ _) _)) _ (-1) 0 rfl (cell_at (by simp) rfl) (cell_at (by simp) rfl) (by rw [hun]; have := LR.out; have := HL.out; omega) (by have := SW.out; have := s5.out; simp; omega) ?_; intro v' w' hP' hG')
        have PP : Hid (Prs 73 w' w.heap.size v' (rs ++ [(-1, 0)])) := hP'
        have TP : Hid (Turn b w w') := (TQ.out.trans (Turn.alloc _ _ _)).of_grown (PQ.out.keep (al (Below.refl _ _) _)) (Nat.le_refl _) hG'
        have SP : Hid (Src w' b (k + 3 * (j + 1)) a len cap zs) := (SQ.out.alloc _).grown (PQ.out.keep (al (Below.refl _ _) _)) hb hG'
        clear hP' hG'
        go_wp2_with fail
        go_roundw
        case rel => exact ⟨j + 1, _, by have := HL.out; omega, by go_num, by rw [List.length_append, hun]; simp; exact LR.out, PP.out, TP.out, SP.out⟩
        case measure => have := HL.out; simp [intOf]; omega
    · have hI : ¬ (j : Int) < 8 := by omega
      obtain rfl : j = 8 := by omega
      obtain rfl : un = 8 := LR.out
      have HUN : Hid (rs.length = 8) := hun
      clear hun hl
      go_wp2_with fail
      go_ret
      exact ⟨_, rfl, rs, HUN.out, PB.out, TB.out, SB.out⟩
theorem DrawnM.shape {w : World} {base : Nat} {v : Value} (h : DrawnM w base v) : ∃ a n cap, v = .slice a n cap ∧ n ≤ 200 := by
  rcases h with ⟨zs, hN, hl⟩ | ⟨a, n, cap, rfl, hn, _⟩
  · obtain ⟨a, cap, rfl, _⟩ := hN.shape
    exact ⟨_, _, _, rfl, hl⟩
  · exact ⟨_, _, _, rfl, hn⟩
theorem DrawnM.turn {w w' : World} {base b : Nat} {v : Value} (h : DrawnM w base v) (t : Turn b w w') (hb : b < base) : DrawnM w' base v := by
  rcases h with ⟨zs, hN, hl⟩ | h
  · exact .inl ⟨zs, hN.turn t hb, hl⟩
  · exact .inr h
theorem DrawnM.mono {w : World} {base base' : Nat} {v : Value} (h : DrawnM w base v) (hb : base' ≤ base) : DrawnM w base' v := by
  rcases h with ⟨zs, hN, hl⟩ | h
  · exact .inl ⟨zs, hN.mono hb, hl⟩
  · exact .inr h
theorem form_cases {n : Nat} (h : formB n = false) : n = 0 ∨ (¬ n = 0 ∧ 192 < n) ∨ (¬ n = 0 ∧ n ≤ 192 ∧ ¬ n % 8 = 0) := by
  have := of_decide_eq_false h
  omega
set_option maxHeartbeats 1000000 in
theorem impl_memBad (a : Option Addr) (n cap : Nat) (w : World) (hn : n ≤ 200) (hf : formB n = false) :
    Calls Try.prog 39 #[.slice a n cap] w fun e w' => e = .returned (.int .i64 1) ∧ w' = w := by
  rcases form_cases hf with rfl | ⟨h1, h2⟩ | ⟨h1, h2, h3⟩
  · go_enter Try.func39, Try.ntmps39
    go_wp2_with fail
    go_ret
    exact ⟨rfl, rfl⟩
  · have e1 : ¬ (n : Int) = 0 := by omega
    have e2 : (192 : Int) < n := by omega
    clear h1 h2 hf
    go_enter Try.func39, Try.ntmps39
    go_wp2_with fail
    go_ret
    exact ⟨rfl, rfl⟩
  · have e1 : ¬ (n : Int) = 0 := by omega
    have e2 : ¬ (192 : Int) < n := by omega
    have e3 : (((n : Int) % 8) != 0) = true := by simp; omega
    clear h1 h2 h3 hf
    go_enter Try.func39, Try.ntmps39
    go_wp2_with fail
    go_ret
    exact ⟨rfl, rfl⟩
theorem form_cases' {n : Nat} (h : formB n = false) : ¬ n % 8 = 0 ∨ (n % 8 = 0 ∧ n < 8) ∨ (n % 8 = 0 ∧ ¬ n < 8 ∧ 192 < n) := by
  have := of_decide_eq_false h
  omega
set_option maxHeartbeats 1000000 in
theorem spec_memBad (a : Option Addr) (n cap : Nat) (w : World) (hn : n ≤ 200) (hf : formB n = false) :
    Calls Try.prog 48 #[.slice a n cap] w fun e w' => e = .returned (.int .i64 1) ∧ w' = w := by
  have hni : (n : Int) ≤ 200 := by omega
  rcases form_cases' hf with h1 | ⟨h1, h2⟩ | ⟨h1, h2, h3⟩
  · have e3 : (((n : Int) % 8) != 0) = true := by simp; omega
    clear h1 hf hn
    go_enter Try.func48, Try.ntmps48
    go_wp2_with fail
    go_ret
    exact ⟨rfl, rfl⟩
  · have e1 : (((n : Int) % 8) != 0) = false := by simp; omega
    have e2 : (n : Int) < 8 := by omega
    clear h1 h2 hf hn
    go_enter Try.func48, Try.ntmps48
    go_wp2_with fail
    go_ret
    exact ⟨rfl, rfl⟩
  · have e1 : (((n : Int) % 8) != 0) = false := by simp; omega
    have e2 : ¬ (n : Int) < 8 := by omega
    have e3 : (192 : Int) < n := by omega
    clear h1 h2 h3 hf hn
    go_enter Try.func48, Try.ntmps48
    go_wp2_with fail
    go_ret
    exact ⟨rfl, rfl⟩
end Go.Proofs.Ytgjpfmcokcjegaa
