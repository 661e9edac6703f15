/- Texts of this seat, joined. -/
import Derived.Test.YtaefollmeoepkaaGreatDoorQ04
import Derived.Test.YtaefollmeoepkaaGreatDoorQ06
import Derived.Test.YtaefollmeoepkaaGreatDoorQ13
import Derived.Test.YtaefollmeoepkaaGreatDoorQ14
import Derived.Test.YtaefollmeoepkaaGreatDoorQ15
import Derived.Test.YtaefollmeoepkaaGreatDoorQ17
import Derived.Test.YtaefollmeoepkaaGreatDoorQ18
import Derived.Test.YtaefollmeoepkaaGreatDoorQ19
import Derived.Test.YtaefollmeoepkaaGreatDoorQ20
import Derived.Test.YtaefollmeoepkaaGreatDoorQ21
import Derived.Test.YtaefollmeoepkaaGreatDoorQ22
import Derived.Test.YtaefollmeoepkaaGreatDoorQ24
import Derived.Test.YtaefollmeoepkaaGreatDoorQ27
namespace Go.Proofs.YtaefollmeoepkaaGreatDoor
open Go.RowKit
set_option linter.unusedVariables false
theorem Nums.empty (w : World) (base : Nat) (hb : base ≤ w.heap.size) : Nums (w.alloc (.cells #[] 2)) base (.slice (some ⟨w.heap.size, 0, none⟩) 0 0) [] :=
  World.ownsRow_lit w #[] 0 hb (by decide) rfl
theorem Turn.grown {b : Nat} {w w' : World} (t : Turn b w w') : w.grownBy w' (some b) := ⟨t.os, t.tape, t.output, t.size, fun k hk hn => t.block k hk (fun e => hn (by rw [e]))⟩
theorem Prs.turn {e : TypeId} {w w' : World} {base b : Nat} {v : Value} {rs : List (Int × Int)} (h : Prs e w base v rs) (t : Turn b w w') (hb : b < base) : Prs e w' base v rs :=
  h.kept t.grown (.inr fun e => by have := (h.lt b e).1; omega)
theorem Prs.empty {w : World} (base g : Nat) (h : w.heap[g]? = some (.cells #[] 36 (0, 0))) (hb : base ≤ g) : Prs 36 w base (.slice (some ⟨g, 0, none⟩) 0 0) [] :=
  ⟨rfl, .inr ⟨g, 0, #[], rfl, hb, h, Nat.le_refl _, by decide, rfl, rfl⟩⟩
theorem Turn.of_grown {b base : Nat} {a w w' : World} {v : Value} {rs : List (Int × Int)} {e : TypeId} (t : Turn b a w) (h : Prs e w base v rs) (hb : a.heap.size ≤ base) (g : w.grownBy w' v.ownBlock) : Turn b a w' :=
  ⟨g.os.trans t.os, g.tape.trans t.tape, g.output.trans t.output, Nat.le_trans t.size g.size, fun k hk hn => by
    rw [g.block k (Nat.lt_of_lt_of_le hk t.size) (fun e => by have := (h.lt k e.symm).1; omega)]
    exact t.block k hk hn⟩
theorem Src.gr {w w' : World} {b k : Nat} {a : Option Addr} {len cap : Nat} {zs : List Int} {row : Option Nat} (s : Src w b k a len cap zs) (g : w.grownBy w' row) (hn : ∀ x, x ≤ b → some x ≠ row) : Src w' b k a len cap zs := by
  have hh := s.here
  refine ⟨cell_grown g s.code (hn b (Nat.le_refl _)), cell_grown g s.count (hn b (Nat.le_refl _)), ?_, ?_, s.away, Nat.lt_of_lt_of_le hh g.size⟩
  · rw [World.frozen?_of_block (w := w) (g.block b hh (hn b (Nat.le_refl _)))]; exact s.free
  · rcases s.row with h0 | ⟨x, rfl, h1, h2, h3, h4, h5⟩
    · exact .inl h0
    · refine .inr ⟨x, rfl, h1, h2, h3, fun i hi => cell_grown g (h4 i hi) ?_, h5⟩
      have hx := s.away x rfl (by omega)
      rw [src_block]
      exact hn _ (by omega)
theorem Src.grown {w w' : World} {b k base : Nat} {a : Option Addr} {len cap : Nat} {zs : List Int} {v : Value} {rs : List (Int × Int)} {e : TypeId} (s : Src w b k a len cap zs) (h : Prs e w base v rs) (hb : b < base) (g : w.grownBy w' v.ownBlock) : Src w' b k a len cap zs :=
  s.gr g fun x hx e => by have := (h.lt x e.symm).1; omega
theorem Src.put {w : World} {b k : Nat} {a : Option Addr} {len cap : Nat} {zs : List Int} (s : Src w b k a len cap zs) (p : Addr) (u : Value) (hp : b < p.block) : Src (w.setCell p u) b k a len cap zs :=
  s.gr (grown_set w p u) fun x hx e => by have := Option.some.inj e; omega
theorem Turn.put {b : Nat} {a w : World} (t : Turn b a w) (p : Addr) (u : Value) (hp : a.heap.size ≤ p.block) : Turn b a (w.setCell p u) :=
  ⟨t.os, t.tape, t.output, by have := t.size; simpa [World.setCell] using this, fun k hk hn => by rw [heap_setCell_other w p k u (by omega)]; exact t.block k hk hn⟩
theorem cell_at {w : World} {cs : Array Value} {t : TypeId} {i n : Nat} {v : Value} (hn : w.heap.size = n) (h : cs[i]? = some v) : (w.alloc (.cells cs t)).cell? ⟨n, i, none⟩ = some v := by
  subst hn
  exact cell_new h
set_option maxHeartbeats 2000000 in
theorem pages_any {w : World} {b k : Nat} {a : Option Addr} {len cap : Nat} {zs : List Int} (s : Src w b k a len cap zs) (hk : k ≤ 90000) (top : Int) :
    Calls Tryz.prog 92 #[.pointer (some ⟨b, 0, none⟩), .int .i64 top] w fun e w' => ∃ (v : Value) (rs : List (Int × Int)), e = .returned v ∧ rs.length = 8 ∧ Prs 36 w' w.heap.size v rs ∧ Turn b w w' ∧ Src w' b (k + 24) a len cap zs := by
  have hb := s.here
  have HS : Hid (Src w b k a len cap zs) := s
  have HK : Hid (k ≤ 90000) := hk
  clear s hk
  go_enter Tryz.func92, Tryz.ntmps92
  go_wp2_with fail
  go_loopw [5, 6, 7] (fun y c _ wr => ∃ (j : Nat) (rs : List (Int × Int)), j ≤ 8 ∧ c = .int .i64 j ∧ rs.length = j ∧ Prs 36 wr w.heap.size y rs ∧ Turn b w wr ∧ Src wr b (k + 3 * j) a len cap zs) (fun _ c _ _ => 8 - (intOf c).toNat)
  case atStart => exact ⟨0, [], Nat.zero_le _, rfl, rfl, Prs.empty _ _ (heap_alloc_new _ _) (Nat.le_refl _), Turn.alloc _ _ _, HS.out.alloc _⟩
  case round =>
    obtain ⟨j, rs, hj, rfl, hl, hP, hT, hS⟩ := hrel
    have PB : Hid (Prs 36 wr w.heap.size _ rs) := hP
    have TB : Hid (Turn b w wr) := hT
    have SB : Hid (Src wr b (k + 3 * j) a len cap zs) := hS
    have LR : Hid (rs.length = j) := hl
    obtain ⟨ya, yc, rfl, _, _, _⟩ := hP.shape
    generalize hun : rs.length = un at *
    clear hP hT hS
    by_cases hlt : j < 8
    · have hI : (j : Int) < 8 := by omega
      have HL : Hid (j < 8) := hlt
      clear hlt hl
      go_wp2_with fail
      refine (next_any SB.out (by have := HK.out; omega) _).mono ?_
      rintro e w2 ⟨v2, rfl, -, -, t2, s2⟩
      go_wp2_with fail
      have h2 := s2.here
      refine (pick_any (s2.alloc _) (by have := HK.out; omega) (fun _ => True) _ 6 (by omega) (by omega) (by simp) (by omega) ?_).mono ?_
      · intro i hi
        have : i = 0 ∨ i = 1 ∨ i = 2 ∨ i = 3 ∨ i = 4 ∨ i = 5 := by omega
        rcases this with rfl | rfl | rfl | rfl | rfl | rfl
        all_goals exact ⟨_, cell_new rfl, trivial⟩
      rintro e w3 ⟨v3, rfl, -, t3, s3⟩
      have T3 : Hid (Turn b wr w3) := t2.trans ((Turn.alloc _ w2 _).trans t3)
      have S3 : Hid (Src w3 b (k + 3 * j + 1 + 1) a len cap zs) := s3
      have h3 := s3.here
      clear t2 s2 t3 s3
      go_wp2_with fail
      refine (chance_any (S3.out.alloc _) (by have := HK.out; omega) _).mono ?_
      rintro e w4 ⟨v4, rfl, t4, s4⟩
      have q0 : w4.cell? ⟨w3.heap.size, 0, none⟩ = some (.int .i64 v2) := by rw [t4.cell (p := ⟨w3.heap.size, 0, none⟩) (by simp) (by show w3.heap.size ≠ b; omega)]; exact cell_new rfl
      have q1 : w4.cell? ⟨w3.heap.size, 1, none⟩ = some (.int .i64 v3) := by rw [t4.cell (p := ⟨w3.heap.size, 1, none⟩) (by simp) (by show w3.heap.size ≠ b; omega)]; exact cell_new rfl
      have z0 : w4.frozen? ⟨w3.heap.size, 0, none⟩ = false := by rw [t4.frozen (p := ⟨w3.heap.size, 0, none⟩) (by simp) (by show w3.heap.size ≠ b; omega)]; simp
      have z1 : w4.frozen? ⟨w3.heap.size, 1, none⟩ = false := by rw [t4.frozen (p := ⟨w3.heap.size, 1, none⟩) (by simp) (by show w3.heap.size ≠ b; omega)]; simp
      have T4 : Hid (Turn b wr w4) := T3.out.trans ((Turn.alloc _ w3 _).trans t4)
      have S4 : Hid (Src w4 b (k + 3 * (j + 1)) a len cap zs) := by
        show Src _ _ _ _ _ _ _
        have : k + 3 * (j + 1) = k + 3 * j + 1 + 1 + 1 := by omega
        rw [this]
        exact s4
      have s34 : w3.heap.size < w4.heap.size := block_of_cell q0
      have sW : w.heap.size ≤ w3.heap.size := Nat.le_trans TB.out.size T3.out.size
      have SW : Hid (w.heap.size ≤ w3.heap.size ∧ w3.heap.size < w4.heap.size) := ⟨sW, s34⟩
      have SWR : Hid (wr.heap.size ≤ w3.heap.size) := T3.out.size
      have P4 : Hid (Prs 36 w4 w.heap.size (.slice ya un yc) rs) := PB.out.turn T4.out hb
      have TT4 : Hid (Turn b w w4) := TB.out.trans T4.out
      clear t4 s4 S3 T3 T4
      cases v4
      · go_wp2_with (at_builtin; refine wp_pair 27 36 Tryz.underlying27 info_page _ rfl _ _ rfl w.heap.size _ _ rfl (P4.out.keep (al (Below.refl _ _) _)) _ v2 v3 rfl (cell_new rfl) (cell_new rfl) (by rw [hun]; have := LR.out; have := HL.out; omega) (by have := SW.out; simp; omega) ?_; intro v' w' hP' hG')
        have PP : Hid (Prs 36 w' w.heap.size v' (rs ++ [(v2, v3)])) := hP'
        have TP : Hid (Turn b w w') := (TT4.out.trans (Turn.alloc _ _ _)).of_grown (P4.out.keep (al (Below.refl _ _) _)) (Nat.le_refl _) hG'
        have SP : Hid (Src w' b (k + 3 * (j + 1)) a len cap zs) := (S4.out.alloc _).grown (P4.out.keep (al (Below.refl _ _) _)) hb hG'
        clear hP' hG'
        go_wp2_with fail
        go_roundw
        case rel => exact ⟨j + 1, _, by have := HL.out; omega, by go_num, by rw [List.length_append, hun]; simp; exact LR.out, PP.out, TP.out, SP.out⟩
        case measure => have := HL.out; simp [intOf]; omega
      · go_wp2_with fail
        refine (spec_none _).mono ?_
        rintro e w5 ⟨rfl, b5⟩
        have q0 := cell_keep b5 q0
        have q1 := cell_keep b5 q1
        have z0 : w5.frozen? ⟨w3.heap.size, 0, none⟩ = false := by rw [b5.frozen (p := ⟨w3.heap.size, 0, none⟩) s34]; exact z0
        have z1 : w5.frozen? ⟨w3.heap.size, 1, none⟩ = false := by rw [b5.frozen (p := ⟨w3.heap.size, 1, none⟩) s34]; exact z1
        have P5 : Hid (Prs 36 w5 w.heap.size (.slice ya un yc) rs) := P4.out.keep b5
        have hnp : Hid ((Value.slice ya un yc).ownBlock ≠ some w3.heap.size) := fun e => by
          have := (PB.out.lt _ e).2
          have := SWR.out
          omega
        have PQ : Hid (Prs 36 ((w5.setCell ⟨w3.heap.size, 0, none⟩ (.int .i64 (-1))).setCell ⟨w3.heap.size, 1, none⟩ (.int .i64 0)) w.heap.size (.slice ya un yc) rs) := (P5.out.put _ _ hnp.out).put _ _ hnp.out
        have TQ : Hid (Turn b w ((w5.setCell ⟨w3.heap.size, 0, none⟩ (.int .i64 (-1))).setCell ⟨w3.heap.size, 1, none⟩ (.int .i64 0))) := ((TT4.out.trans (Turn.of_below b5)).put _ _ sW).put _ _ sW
        have SQ : Hid (Src ((w5.setCell ⟨w3.heap.size, 0, none⟩ (.int .i64 (-1))).setCell ⟨w3.heap.size, 1, none⟩ (.int .i64 0)) b (k + 3 * (j + 1)) a len cap zs) := ((S4.out.turn (Turn.of_below (b := w4.heap.size) b5) (Nat.le_refl _)).put _ _ h3).put _ _ h3
        have s5 : Hid (w3.heap.size < w5.heap.size) := block_of_cell q0
        clear b5
        go_wp2_with (at_builtin; refine wp_pair 27 36 Tryz.underlying27 info_page _ rfl _ _ rfl w.heap.size _ _ rfl (PQ.out.keep (al (Below.refl _ _) _)) _ (-1) 0 rfl (cell_at (by simp) rfl) (cell_at (by simp) rfl) (by rw [hun]; have := LR.out; have := HL.out; omega) (by have := SW.out; have := s5.out; simp; omega) ?_; intro v' w' hP' hG')
        have PP : Hid (Prs 36 w' w.heap.size v' (rs ++ [(-1, 0)])) := hP'
        have TP : Hid (Turn b w w') := (TQ.out.trans (Turn.alloc _ _ _)).of_grown (PQ.out.keep (al (Below.refl _ _) _)) (Nat.le_refl _) hG'
        have SP : Hid (Src w' b (k + 3 * (j + 1)) a len cap zs) := (SQ.out.alloc _).grown (PQ.out.keep (al (Below.refl _ _) _)) hb hG'
        clear hP' hG'
        go_wp2_with fail
        go_roundw
        case rel => exact ⟨j + 1, _, by have := HL.out; omega, by go_num, by rw [List.length_append, hun]; simp; exact LR.out, PP.out, TP.out, SP.out⟩
        case measure => have := HL.out; simp [intOf]; omega
    · have hI : ¬ (j : Int) < 8 := by omega
      obtain rfl : j = 8 := by omega
      obtain rfl : un = 8 := LR.out
      have HUN : Hid (rs.length = 8) := hun
      clear hun hl
      go_wp2_with fail
      go_ret
      exact ⟨_, rfl, rs, HUN.out, PB.out, TB.out, SB.out⟩
structure Sv (w u : World) (b q : Nat) (r c i o : Value) (H : Ht) : Prop where
  m : Hm u b r c i o H
  v : Vb u q #[r, .int .i64 H.pc, c, .bool H.halted, .bool H.waiting, .bool H.rung, .int .i64 H.done, i, o] 26
  g : Mq (fun j => j = q ∨ c.ownBlock = some j) w u
theorem Sv.dr {w v : World} {b q : Nat} {r c i o : Value} {H : Ht} (h : Sv w v b q r c i o H) : Sv w v.drew b q r c i o H :=
  ⟨h.m.keep (Below.refl _ _).drew, h.v, h.g.dr⟩
theorem apt_ne {a c : Value} {y : Nat} (h : Apt c a) (hc : c.ownBlock = some y) : a.ownBlock ≠ some y := by
  rcases h with h | h
  · rw [hc] at h; cases h
  · intro e; exact h (hc.trans e.symm)
theorem Sv.csr {w v : World} {b q y k : Nat} {r i o : Value} {H : Ht} (h : Sv w v b q r (.slice (some ⟨y, 0, none⟩) 11 k) i o H) (A : Ha r (.slice (some ⟨y, 0, none⟩) 11 k) i o) (hq : q ≠ y) (n : Nat) (u : Int) :
    Sv w (v.setCell ⟨y, n, none⟩ (.int .i64 u)) b q r (.slice (some ⟨y, 0, none⟩) 11 k) i o { H with csr := H.csr.set n u } :=
  ⟨⟨h.m.r.put _ _ (apt_ne A.rc.swap rfl), (h.m.c.store n u).1, h.m.i.put _ _ (apt_ne A.ci rfl), h.m.o.put _ _ (apt_ne A.co rfl)⟩, h.v.put _ _ hq, h.g.set _ _ (.inr rfl)⟩
theorem Sv.fld {w v : World} {b q : Nat} {r c i o : Value} {H : Ht} (h : Sv w v b q r c i o H) (hq : ∀ k, Own4 r c i o k → k ≠ q) (j : Nat) (u : Value) :
    Nums (v.setCell ⟨q, j, none⟩ u) b r H.regs ∧ Nums (v.setCell ⟨q, j, none⟩ u) b c H.csr ∧ Nums (v.setCell ⟨q, j, none⟩ u) b i H.inn ∧ Nums (v.setCell ⟨q, j, none⟩ u) b o H.out ∧ Mq (fun j => j = q ∨ c.ownBlock = some j) w (v.setCell ⟨q, j, none⟩ u) :=
  ⟨h.m.r.put _ _ (fun e => hq q (.inl e) rfl), h.m.c.put _ _ (fun e => hq q (.inr (.inl e)) rfl), h.m.i.put _ _ (fun e => hq q (.inr (.inr (.inl e))) rfl), h.m.o.put _ _ (fun e => hq q (.inr (.inr (.inr e))) rfl), h.g.set _ _ (.inl rfl)⟩
theorem Sv.pc {w v : World} {b q : Nat} {r c i o : Value} {H : Ht} (h : Sv w v b q r c i o H) (hq : ∀ k, Own4 r c i o k → k ≠ q) (u : Int) : Sv w (v.setCell ⟨q, 1, none⟩ (.int .i64 u)) b q r c i o { H with pc := u } := by
  obtain ⟨h1, h2, h3, h4, h5⟩ := h.fld hq 1 (.int .i64 u)
  exact ⟨⟨h1, h2, h3, h4⟩, h.v.set 1 _, h5⟩
theorem Sv.rung {w v : World} {b q : Nat} {r c i o : Value} {H : Ht} (h : Sv w v b q r c i o H) (hq : ∀ k, Own4 r c i o k → k ≠ q) (u : Bool) : Sv w (v.setCell ⟨q, 5, none⟩ (.bool u)) b q r c i o { H with rung := u } := by
  obtain ⟨h1, h2, h3, h4, h5⟩ := h.fld hq 5 (.bool u)
  exact ⟨⟨h1, h2, h3, h4⟩, h.v.set 5 _, h5⟩
theorem all_set {zs : List Int} {n : Nat} {u : Int} (h : zs.all isW = true) (hu : isW u = true) : (zs.set n u).all isW = true := by
  rw [List.all_eq_true] at h ⊢
  intro x hx
  rcases List.mem_or_eq_of_mem_set hx with h1 | h1
  · exact h x h1
  · rw [h1]; exact hu
theorem gt_isW {zs : List Int} (h : zs.all isW = true) (n : Nat) : isW (gt zs n) = true := isW_iff.2 (all_at h n)
theorem stand_parts {zs : List Int} : standC zs = true ↔ gt zs 0 ≤ 3 ∧ gt zs 7 ≤ 7 ∧ gt zs 10 ≤ 8 ∧ gt zs 6 = 0 ∧ gt zs 8 = 0 := by
  unfold standC
  simp only [Bool.and_eq_true, decide_eq_true_eq]
  exact ⟨fun h => ⟨h.1.1.1.1, h.1.1.1.2, h.1.1.2, h.1.2, h.2⟩, fun h => ⟨⟨⟨⟨h.1, h.2.1⟩, h.2.2.1⟩, h.2.2.2.1⟩, h.2.2.2.2⟩⟩
theorem stand_word (k x : Int) (h0 : 0 ≤ x) (h1 : x ≤ 4294967295) : isW (standV k x) = true := by
  rw [isW_iff]
  unfold standV
  repeat' split
  all_goals omega
theorem wd_word (x : Int) : 0 ≤ wd x ∧ wd x ≤ 4294967295 := by unfold wd; omega
theorem setV_hok {H : Ht} (K : Hok H) (k x : Int) (h0 : 0 ≤ k) (h10 : k ≤ 10) : Hok (setV H k x) := by
  obtain ⟨n, rfl⟩ : ∃ n : Nat, k = n := ⟨k.toNat, by omega⟩
  have hw := wd_word x
  have hl : n < H.csr.length := by have := K.c11; omega
  refine ⟨K.r16, by simp [setV, K.c11], K.r0, K.rw, K.pw, all_set K.cw (stand_word _ _ hw.1 hw.2), K.iw, K.ow, K.i40, K.o40, K.d0, K.d9, ?_⟩
  have s := stand_parts.1 K.st
  have g : ∀ j, gt (setV H (n : Int) x).csr j = if j = n then standV n (wd x) else gt H.csr j := fun j => gt_set _ _ _ _ hl
  rw [stand_parts, g, g, g, g, g]
  generalize wd x = u at *
  refine ⟨?_, ?_, ?_, ?_, ?_⟩
  · split
    · rename_i e; subst e; simp [standV]; omega
    · exact s.1
  · split
    · rename_i e; subst e; simp [standV]; omega
    · exact s.2.1
  · split
    · rename_i e; subst e; simp only [standV]; simp; split <;> omega
    · exact s.2.2.1
  · split
    · rename_i e; subst e; simp [standV]
    · exact s.2.2.2.1
  · split
    · rename_i e; subst e; simp [standV]
    · exact s.2.2.2.2
theorem trapV_gt {H : Ht} (hc : H.csr.length = 11) (k x : Int) (j : Nat) : gt (trapV H k x).csr j = if j = 0 then gt H.csr 0 % 2 * 2 else if j = 4 then x else if j = 3 then k else if j = 2 then H.pc else gt H.csr j := by
  show gt ((((H.csr.set 2 H.pc).set 3 k).set 4 x).set 0 _) j = _
  rw [gt_set _ _ _ _ (by simp; omega), gt_set _ _ _ _ (by simp; omega), gt_set _ _ _ _ (by simp; omega), gt_set _ _ _ _ (by omega)]
  rfl
theorem trapV_hok {H : Ht} (K : Hok H) (k x : Int) (h0 : 0 ≤ k) (h31 : k ≤ 31) (hx : isW x = true) : Hok (trapV H k x) := by
  have z := all_at K.cw 0
  have g := trapV_gt K.c11 k x
  have s := stand_parts.1 K.st
  refine ⟨K.r16, by simp [trapV, K.c11], K.r0, K.rw, gt_isW K.cw 1, all_set (all_set (all_set (all_set K.cw K.pw) (isW_iff.2 (by omega))) hx) (isW_iff.2 ?_), K.iw, K.ow, K.i40, K.o40, K.d0, K.d9, ?_⟩
  · show 0 ≤ gt H.csr 0 % 2 * 2 ∧ _
    omega
  · rw [stand_parts, g, g, g, g, g]
    simp
    refine ⟨by omega, s.2.1, s.2.2.1, s.2.2.2.1, s.2.2.2.2⟩
theorem backV_gt {H : Ht} (hc : H.csr.length = 11) (j : Nat) : gt (backV H).csr j = if j = 0 then 2 + gt H.csr 0 / 2 else gt H.csr j := by
  show gt (H.csr.set 0 _) j = _
  rw [gt_set _ _ _ _ (by omega)]
  rfl
theorem backV_hok {H : Ht} (K : Hok H) : Hok (backV H) := by
  have z := all_at K.cw 0
  have g := backV_gt K.c11
  have s := stand_parts.1 K.st
  refine ⟨K.r16, by simp [backV, K.c11], K.r0, K.rw, gt_isW K.cw 2, all_set K.cw (isW_iff.2 ?_), K.iw, K.ow, K.i40, K.o40, K.d0, K.d9, ?_⟩
  · have := s.1
    show 0 ≤ 2 + gt H.csr 0 / 2 ∧ 2 + gt H.csr 0 / 2 ≤ 4294967295
    have z0 : 0 ≤ gt H.csr 0 := z.1
    omega
  · rw [stand_parts, g, g, g, g, g]
    simp
    have z0 : 0 ≤ gt H.csr 0 := z.1
    refine ⟨by omega, s.2.1, s.2.2.1, s.2.2.2.1, s.2.2.2.2⟩
set_option maxRecDepth 20000 in
set_option maxHeartbeats 4000000 in
theorem s_asked (q : Nat) (r c i o : Value) (H : Ht) (pa : Option Addr) (pn pc : Nat) (ps : List (Int × Int)) (ma : Option Addr) (mn mc : Nat) (zs : List Int) (b : Nat) (w : World) (h : Hm w b r c i o H) (hv : Vb w q #[r, .int .i64 H.pc, c, .bool H.halted, .bool H.waiting, .bool H.rung, .int .i64 H.done, i, o] 26) (hP : Prs 36 w b (.slice pa pn pc) ps) (hl : ps.length ≤ 1048576) (hM : Nums w b (.slice ma mn mc) zs) (hm : zs.length ≤ 1048576) :
    Calls Tryz.prog 26 #[.pointer (some ⟨q, 0, none⟩), .slice pa pn pc, .slice ma mn mc] w fun e w' => e = .returned (.int .i64 (seenC H ps zs)) ∧ w' = w := by
  have sF := s_fault q r c i o H b w h hv
  have sP := spec_fault _ ps 24 b w hP hl
  have sM := spec_memFault _ zs b w hM
  have HP : Hid (Prs 36 w b (.slice pa pn pc) ps) := hP
  have HN : Hid (mn = zs.length ∧ pn = ps.length) := by
    refine ⟨hM.len, ?_⟩
    obtain ⟨a, cap, hv, _⟩ := hP.shape
    cases hv
    rfl
  clear h hP hM hl hm hv
  by_cases hf : hfV H = 0
  case neg =>
    have HE : Hid (seenC H ps zs = hfV H) := if_neg hf
    generalize hfV H = f at *
    go_enter Tryz.func26, Tryz.ntmps26
    go_wp2_with (go_at_call 54; refine sF.mono ?_; rintro e y ⟨rfl, hy⟩; rw [hy]; clear hy y)
    go_ret
    exact ⟨by rw [HE.out]; rfl, rfl⟩
  have E1 : seenC H ps zs = if pgsV ps 24 = 0 then (if memV zs = 0 then (if beyB ps zs.length then 1 else 0) else 1) else pgsV ps 24 := if_pos hf
  rw [hf] at sF
  clear hf
  by_cases hp : pgsV ps 24 = 0
  case neg =>
    have HE : Hid (seenC H ps zs = pgsV ps 24) := by show _ = _; rw [E1, if_neg hp]
    clear E1
    generalize pgsV ps 24 = f at *
    go_enter Tryz.func26, Tryz.ntmps26
    go_wp2_with (first | (go_at_call 54; refine sF.mono ?_; rintro e y ⟨rfl, hy⟩; rw [hy]; clear hy y) | (go_at_call 55; refine sP.mono ?_; rintro e y ⟨rfl, hy⟩; rw [hy]; clear hy y))
    go_ret
    exact ⟨by rw [HE.out]; rfl, rfl⟩
  rw [if_pos hp] at E1
  obtain ⟨_, _, hl8, _⟩ := pgsV_zero hp
  rw [hp] at sP
  have HOK : Hid (okTo 24 ps 8) := (pgsV_zero hp).2.2.2
  clear hp
  by_cases hz : memV zs = 0
  case neg =>
    have HE : Hid (seenC H ps zs = 1) := by show _ = _; rw [E1, if_neg hz]
    clear E1 hl8
    generalize memV zs = f at *
    go_enter Tryz.func26, Tryz.ntmps26
    go_wp2_with (first | (go_at_call 54; refine sF.mono ?_; rintro e y ⟨rfl, hy⟩; rw [hy]; clear hy y) | (go_at_call 55; refine sP.mono ?_; rintro e y ⟨rfl, hy⟩; rw [hy]; clear hy y) | (go_at_call 56; refine sM.mono ?_; rintro e y ⟨rfl, hy⟩; rw [hy]; clear hy y))
    go_ret
    exact ⟨by rw [HE.out]; rfl, rfl⟩
  rw [if_pos hz] at E1
  have hz8 : ∃ p, zs.length = p * 8 ∧ p ≤ 24 := by
    unfold memV at hz
    split at hz
    · rename_i hf
      unfold formB at hf
      have hf := of_decide_eq_true hf
      exact ⟨zs.length / 8, by omega, by omega⟩
    · exact absurd hz (by decide)
  obtain ⟨p, hzp, hp24⟩ := hz8
  rw [hz] at sM
  obtain ⟨hn1, hn2⟩ := HN.out
  obtain rfl : mn = p * 8 := by omega
  obtain rfl : pn = 8 := by omega
  obtain ⟨pa', pc', hv, -, -, hg⟩ := HP.out.shape
  obtain ⟨g, hg⟩ := hg (by omega)
  simp only [Value.slice.injEq] at hv
  obtain ⟨hv1, -, -⟩ := hv
  rw [hg] at hv1
  subst hv1
  clear hg
  rw [hzp] at E1
  have HL : Hid (ps.length = 8) := hl8
  have HD : Hid (p * 8 / 8 = p) := by show _ = _; omega
  have HE1 : Hid (seenC H ps zs = if beyB ps (p * 8) then 1 else 0) := E1
  have hpi : (p : Int) ≤ 24 := by omega
  clear hz hn1 hn2 E1 hzp hp24 hl8
  go_enter Tryz.func26, Tryz.ntmps26
  go_wp2_with (first | (go_at_call 54; refine sF.mono ?_; rintro e y ⟨rfl, hy⟩; rw [hy]; clear hy y) | (go_at_call 55; refine sP.mono ?_; rintro e y ⟨rfl, hy⟩; rw [hy]; clear hy y) | (go_at_call 56; refine sM.mono ?_; rintro e y ⟨rfl, hy⟩; rw [hy]; clear hy y))
  clear sF sP sM
  go_loop [9] (fun c => ∃ j : Nat, j ≤ 8 ∧ c = .int .i64 j ∧ beyB (ps.take j) (p * 8) = false) (fun c => 8 - (intOf c).toNat)
  case atStart => exact ⟨0, Nat.zero_le _, rfl, rfl⟩
  case round =>
    obtain ⟨j, hj, rfl, hA⟩ := hrel
    have HA : Hid (beyB (ps.take j) (p * 8) = false) := hA
    clear hA
    by_cases hlt : j < 8
    · have c0 := (HP.out.cell HL.out.symm j hlt).1
      have hI : (j : Int) < 8 := by omega
      have HLT : Hid (j < 8) := hlt
      have HT := bey_take ps (p * 8) j (by have := HL.out; omega)
      rw [HA.out] at HT
      have HE := bey_here (ps := ps) (n := p * 8) (j := j) (by have := HL.out; omega)
      rw [HD.out] at HT HE
      have hr := pgC_zero (HOK.out j hlt)
      generalize (ps.getD j (0, 0)).1 = x at *
      have hr1 : -1 ≤ x := hr.1
      have hr2 : x ≤ 23 := by omega
      have HTT : Hid (beyB (ps.take (j + 1)) (p * 8) = (false || decide ((p : Int) ≤ x))) := HT
      have HEE : Hid ((p : Int) ≤ x → beyB ps (p * 8) = true) := HE
      clear HT HE hlt hr
      by_cases hx : (p : Int) ≤ x
      · have hx3 : (p : Int) * 8 < (x + 1) * 8 := by omega
        go_wp2_with fail
        go_ret
        exact ⟨by rw [HE1.out, HEE.out hx]; rfl, rfl⟩
      · have hx2 : x < (p : Int) := by omega
        have hx3 : ¬ (p : Int) * 8 < (x + 1) * 8 := by omega
        go_wp2_with fail
        go_round
        case rel => exact ⟨j + 1, by have := HLT.out; omega, by go_num, by rw [HTT.out]; simpa using hx2⟩
        case measure => have := HLT.out; simp [intOf]; omega
    · have hI : ¬ (j : Int) < 8 := by omega
      obtain rfl : j = 8 := by omega
      have HE : Hid (seenC H ps zs = 0) := by
        have := HA.out
        rw [List.take_of_length_le (Nat.le_of_eq HL.out)] at this
        show _ = _
        rw [HE1.out, this]
        rfl
      go_wp2_with fail
      go_ret
      exact ⟨by rw [HE.out]; rfl, rfl⟩
theorem s_wrap (n : Int) (w : World) : Calls Tryz.prog 135 #[.int .i64 n] w fun e w' => e = .returned (.int .i64 (wd n)) ∧ w' = w := by
  go_enter Tryz.func135, Tryz.ntmps135
  go_wp2
  go_ret
  exact ⟨rfl, rfl⟩
theorem hwd_in (x : Int) : 0 ≤ wd x ∧ wd x ≤ 4294967295 := by unfold wd; omega
def drV (H : Ht) (k : Int) : Int := if k = 1 then H.inn.headD 0 else if k = 2 then H.done else if k = 3 then H.csr.getD 9 0 else if k = 4 then pendV H else if k = 6 then H.inn.length else 0
def drH (H : Ht) (k : Int) : Ht := if k = 1 then { H with inn := H.inn.tail } else H
def setW (H : Ht) (k x : Int) : Ht := stH H k.toNat (standV k x) (H.rung && !(decide (k = 6) && decide (2 ≤ x % 4)))
theorem setW_wd (H : Ht) (k x : Int) : setV H k x = setW H k (wd x) := rfl
def outW (H : Ht) (x : Int) : Ht := if H.out.length < 40 then { H with out := H.out ++ [x] } else H
def dwW (H : Ht) (k x : Int) : Ht := if k = 0 then outW H x else if k = 3 then setW H 9 x else if k = 4 then setW H 6 x else H
def rgW (k x : Int) : Int := if k = 5 then x else -1
theorem head_get (zs : List Int) : zs[0]?.getD 0 = zs.headD 0 := by cases zs <;> rfl
theorem head_get2 (zs : List Int) : zs[0]?.getD 0 = zs.head?.getD 0 := by cases zs <;> rfl
structure Sd (w u : World) (b q : Nat) (r c o i' o' : Value) (G : Ht) : Prop where
  v : Vb u q #[r, .int .i64 G.pc, c, .bool G.halted, .bool G.waiting, .bool G.rung, .int .i64 G.done, i', o'] 26
  m : Hr u r c i' o' G
  n : ∀ k, Own4 r c i' o' k → b ≤ k ∧ k < u.heap.size
  g : Mq (fun j => j = q ∨ c.ownBlock = some j ∨ o.ownBlock = some j) w u
theorem Sd.of {w w' : World} {b q : Nat} {r c i o o' : Value} {G : Ht} (h : Hm w' b r c i o' G) (hv : Vb w' q #[r, .int .i64 G.pc, c, .bool G.halted, .bool G.waiting, .bool G.rung, .int .i64 G.done, i, o'] 26) (g : Mq (fun j => j = q ∨ c.ownBlock = some j ∨ o.ownBlock = some j) w w') : Sd w w' b q r c o i o' G :=
  ⟨hv, h.hr, fun k e => h.own k e, g⟩
theorem Mq.more {S T : Nat → Prop} {w w' : World} (m : Mq S w w') (h : ∀ k, S k → T k) : Mq T w w' := ⟨m.os, m.tape, m.output, m.size, fun k hk hn => m.block k hk fun e => hn (h k e)⟩
theorem wk_zero {rs : List (Int × Int)} {x k : Int} (h : ¬ wkC rs x k = 0) : wkV rs x k = 0 := by
  unfold wkV
  unfold wkC at h
  cases hk : kindB k
  · rfl
  · rw [hk] at h
    cases hg : goesB rs x k
    · rfl
    · rw [hg] at h
      simp at h
set_option maxRecDepth 20000 in
set_option maxHeartbeats 4000000 in
theorem i_behind (q : Nat) (i o : Value) (H : Ht) (pg pc : Nat) (ps : List (Int × Int)) (g p : Nat) (ca ri : Int) (b : Nat) (w : World) (hv : Vb w q (mcr H i o (.slice (some ⟨pg, 0, none⟩) 8 pc) (.slice (some ⟨g, 0, none⟩) p p) ca ri) 78) (hP : Prs 36 w b (.slice (some ⟨pg, 0, none⟩) 8 pc) ps) (hl : ps.length = 8) (ho : okTo 24 ps 8) (y k : Int) (h0 : 0 ≤ y) (h63 : y ≤ 63) :
    Calls Tryz.prog 83 #[.pointer (some ⟨q, 0, none⟩), .int .i64 y, .int .i64 k] w fun e w' => e = .returned (.agg #[.int .i64 (behC ps y k), .int .i64 (behV ps y k)]) ∧ Below w.heap.size w w' := by
  have HV : Hid (Vb w q (mcr H i o (.slice (some ⟨pg, 0, none⟩) 8 pc) (.slice (some ⟨g, 0, none⟩) p p) ca ri) 78) := hv
  have HP : Hid (Prs 36 w b (.slice (some ⟨pg, 0, none⟩) 8 pc) ps) := hP
  have HL : Hid (ps.length = 8 ∧ okTo 24 ps 8) := ⟨hl, ho⟩
  clear hv hP hl ho
  generalize hW : w.alloc (.cells #[.int .i64 0, .int .i64 0] 48) = W
  have B0 : Hid (Below w.heap.size w W) := by show Below _ _ _; rw [← hW]; exact al (Below.refl _ _) _
  obtain ⟨s, hS⟩ : ∃ s, w.heap.size = s := ⟨_, rfl⟩
  have HS : Hid (w.heap.size = s) := hS
  have VR : Hid (Vb W s #[.int .i64 0, .int .i64 0] 48) := by show Vb _ _ _ _; rw [← hW, ← hS]; exact Vb.new _ _ _
  have V0 : Hid (Vb W q (mcr H i o (.slice (some ⟨pg, 0, none⟩) 8 pc) (.slice (some ⟨g, 0, none⟩) p p) ca ri) 78) := HV.out.keep B0.out
  have c34 : W.cell? ⟨q, 34, none⟩ = some (.slice (some ⟨pg, 0, none⟩) 8 pc) := V0.out.cell 34 rfl
  have aB : atB y = true := by unfold atB; simp; omega
  have aN : atN y = y / 8 := by unfold atN; rw [aB]; rfl
  obtain ⟨m, hm⟩ : ∃ m, y / 8 = m := ⟨_, rfl⟩
  have HMM : Hid (y / 8 = m) := hm
  obtain ⟨C, hC⟩ : ∃ C, behC ps y k = C := ⟨_, rfl⟩
  obtain ⟨Y, hY⟩ : ∃ Y, behV ps y k = Y := ⟨_, rfl⟩
  have HC : Hid (behC ps y k = C) := hC
  have HY : Hid (behV ps y k = Y) := hY
  rw [hC, hY]
  clear hC hY
  by_cases h7 : m = 7
  · subst h7
    have E7 : Hid (y / 8 = 7) := hm
    by_cases h4 : k = 4
    · subst h4
      have EC : Hid (C = 9 ∧ Y = 0) := ⟨by rw [← HC.out, behC, if_pos E7.out, if_pos rfl], by rw [← HY.out, behV, if_pos E7.out, if_pos rfl]⟩
      go_enter Tryz.func83, Tryz.ntmps83
      have p0 := VR.out.cell 0 rfl
      have f0 := VR.out.free 0
      have p1 := VR.out.cell 1 rfl
      have f1 := VR.out.free 1
      go_wp2_with (go_at_call 123; refine (impl_pageOf y _).mono ?_; rintro e z ⟨rfl, hz⟩; rw [hz, aB, aN, hm]; clear hz z)
      clear aB aN hm hW hS c34
      have NN : Hid (_ ∧ _) := twoX VR.out (.int .i64 9) (.int .i64 0)
      clear p0 f0 p1 f1
      generalize ((W.setCell ⟨s, 0, none⟩ (.int .i64 9)).setCell ⟨s, 1, none⟩ (.int .i64 0)) = V at *
      have x0 := NN.out.1.cell 0 rfl
      have x1 := NN.out.1.cell 1 rfl
      exact bodyPost_ret (v := .agg #[.int .i64 9, .int .i64 0]) (by simp [results, Tryz.results83, go_sem, x0, x1]) rfl
        ⟨by rw [EC.out.1, EC.out.2], Mq.under B0.out NN.out.2 fun k e => by have := HS.out; omega⟩
    · have h4b : (k == 4) = false := by simpa using h4
      have tm : y.tmod 8 = y % 8 := Int.tmod_eq_emod_of_nonneg h0
      obtain ⟨z8, hz8⟩ : ∃ z8, y % 8 = z8 := ⟨_, rfl⟩
      have hz0 : 0 ≤ z8 := by omega
      have hz7 : z8 ≤ 7 := by omega
      have EC : Hid (C = 0 ∧ Y = 1000 + z8) := ⟨by rw [← HC.out, behC, if_pos E7.out, if_neg h4], by rw [← HY.out, behV, if_pos E7.out, if_neg h4, hz8]⟩
      rw [hz8] at tm
      clear h4 hz8
      go_enter Tryz.func83, Tryz.ntmps83
      have p0 := VR.out.cell 0 rfl
      have f0 := VR.out.free 0
      have p1 := VR.out.cell 1 rfl
      have f1 := VR.out.free 1
      go_wp2_with (go_at_call 123; refine (impl_pageOf y _).mono ?_; rintro e z ⟨rfl, hz⟩; rw [hz, aB, aN, hm]; clear hz z)
      clear aB aN hm hW hS c34
      have NN : Hid (_ ∧ _) := twoX VR.out (.int .i64 0) (.int .i64 (1000 + z8))
      clear p0 f0 p1 f1
      generalize ((W.setCell ⟨s, 0, none⟩ (.int .i64 0)).setCell ⟨s, 1, none⟩ (.int .i64 (1000 + z8))) = V at *
      have x0 := NN.out.1.cell 0 rfl
      have x1 := NN.out.1.cell 1 rfl
      exact bodyPost_ret (v := .agg #[.int .i64 0, .int .i64 (1000 + z8)]) (by simp [results, Tryz.results83, go_sem, x0, x1]) rfl
        ⟨by rw [EC.out.1, EC.out.2], Mq.under B0.out NN.out.2 fun k e => by have := HS.out; omega⟩
  · have h7b : (m != 7) = true := by simpa using h7
    have EC : Hid (C = wkC ps y k ∧ Y = wkV ps y k) := ⟨by rw [← HC.out, behC, if_neg (by rw [hm]; exact h7)], by rw [← HY.out, behV, if_neg (by rw [hm]; exact h7)]⟩
    go_enter Tryz.func83, Tryz.ntmps83
    go_wp2_with (go_at_call 123; refine (impl_pageOf y _).mono ?_; rintro e z ⟨rfl, hz⟩; rw [hz, aB, aN, hm]; clear hz z)
    clear aB aN hm hW hS c34 h7 h7b
    refine (impl_walk _ ps y k b W (HP.out.keep B0.out) HL.out.1 HL.out.2).mono ?_
    rintro e w1 ⟨rfl, b1⟩
    have B1 : Hid (Below w.heap.size w w1) := on B0.out b1
    have VR1 : Hid (Vb w1 s #[.int .i64 0, .int .i64 0] 48) := VR.out.keep b1
    clear b1
    generalize wkC ps y k = c1 at *
    generalize wkV ps y k = y1 at *
    have p0 := VR1.out.cell 0 rfl
    have f0 := VR1.out.free 0
    have p1 := VR1.out.cell 1 rfl
    have f1 := VR1.out.free 1
    go_wp2_with fail
    have NN : Hid (_ ∧ _) := twoX VR1.out (.int .i64 c1) (.int .i64 y1)
    clear p0 f0 p1 f1
    generalize ((w1.setCell ⟨s, 0, none⟩ (.int .i64 c1)).setCell ⟨s, 1, none⟩ (.int .i64 y1)) = V at *
    have x0 := NN.out.1.cell 0 rfl
    have x1 := NN.out.1.cell 1 rfl
    exact bodyPost_ret (v := .agg #[.int .i64 c1, .int .i64 y1]) (by simp [results, Tryz.results83, go_sem, x0, x1]) rfl
      ⟨by rw [EC.out.1, EC.out.2], Mq.under B1.out NN.out.2 fun k e => by have := HS.out; omega⟩
set_option maxRecDepth 20000 in
set_option maxHeartbeats 4000000 in
theorem i_place (q : Nat) (i o : Value) (H : Ht) (pg pc : Nat) (ps : List (Int × Int)) (g p : Nat) (zs : List Int) (ca ri : Int) (b : Nat) (w : World) (hv : Vb w q (mcr H i o (.slice (some ⟨pg, 0, none⟩) 8 pc) (.slice (some ⟨g, 0, none⟩) p p) ca ri) 78) (hP : Prs 36 w b (.slice (some ⟨pg, 0, none⟩) 8 pc) ps) (hG : Pags w b (.slice (some ⟨g, 0, none⟩) p p) p zs) (sn : Sn H ps zs p) (x k : Int) (hk : kindB k = true) :
    Calls Tryz.prog 39 #[.pointer (some ⟨q, 0, none⟩), .int .i64 x, .int .i64 k] w fun e w' => e = .returned (.agg #[.int .i64 (plC H ps zs x k), .int .i64 (plV H ps zs x k)]) ∧ Below w.heap.size w w' := by
  have HV : Hid (Vb w q (mcr H i o (.slice (some ⟨pg, 0, none⟩) 8 pc) (.slice (some ⟨g, 0, none⟩) p p) ca ri) 78) := hv
  have HP : Hid (Prs 36 w b (.slice (some ⟨pg, 0, none⟩) 8 pc) ps) := hP
  have HG : Hid (Pags w b (.slice (some ⟨g, 0, none⟩) p p) p zs) := hG
  have SN : Hid (Sn H ps zs p) := sn
  have HK : Hid (kindB k = true) := hk
  clear hv hP hG sn hk
  generalize hW : w.alloc (.cells #[.int .i64 0, .int .i64 0] 48) = W
  have B0 : Hid (Below w.heap.size w W) := by show Below _ _ _; rw [← hW]; exact al (Below.refl _ _) _
  obtain ⟨s, hS⟩ : ∃ s, w.heap.size = s := ⟨_, rfl⟩
  have HS : Hid (w.heap.size = s) := hS
  have VR : Hid (Vb W s #[.int .i64 0, .int .i64 0] 48) := by show Vb _ _ _ _; rw [← hW, ← hS]; exact Vb.new _ _ _
  have V0 : Hid (Vb W q (mcr H i o (.slice (some ⟨pg, 0, none⟩) 8 pc) (.slice (some ⟨g, 0, none⟩) p p) ca ri) 78) := HV.out.keep B0.out
  obtain ⟨C, hC⟩ : ∃ C, plC H ps zs x k = C := ⟨_, rfl⟩
  obtain ⟨Y, hY⟩ : ∃ Y, plV H ps zs x k = Y := ⟨_, rfl⟩
  have HC : Hid (plC H ps zs x k = C) := hC
  have HY : Hid (plV H ps zs x k = Y) := hY
  rw [hC, hY]
  clear hC hY
  go_enter Tryz.func39, Tryz.ntmps39
  go_wp2_with fail
  clear hW hS
  refine (i_space q i o H pg pc ps g p zs ca ri b W V0.out (HP.out.keep B0.out) (HG.out.keep B0.out) SN.out).mono ?_
  rintro e w1 ⟨u, rfl, pu, b1⟩
  obtain ⟨ua, uc, hu, _⟩ := pu.shape
  obtain ⟨ul, hul⟩ : ∃ ul, (spP H ps zs).length = ul := ⟨_, rfl⟩
  rw [hul] at hu
  subst hu
  obtain ⟨d, hd⟩ : ∃ d, spC H ps = d := ⟨_, rfl⟩
  have HD : Hid (spC H ps = d) := hd
  rw [hd]
  clear hd hul
  go_upto_region 2 with fail
  generalize hW1 : w1.alloc (.cells #[.int .i64 d, .slice ua ul uc] 127) = W1
  obtain ⟨n, hn⟩ : ∃ n, w1.heap.size = n := ⟨_, rfl⟩
  rw [hn]
  have VN : Hid (Vb W1 n #[.int .i64 d, .slice ua ul uc] 127) := by show Vb _ _ _ _; rw [← hW1, ← hn]; exact Vb.new _ _ _
  have bb : Below W.heap.size W W1 := by rw [← hW1]; exact al b1 _
  have PU : Hid (Prs 36 W1 W.heap.size (.slice ua ul uc) (spP H ps zs)) := by show Prs _ _ _ _ _; rw [← hW1]; exact pu.keep (al (Below.refl _ _) _)
  have B1 : Hid (Below w.heap.size w W1) := on B0.out bb
  have VR1 : Hid (Vb W1 s #[.int .i64 0, .int .i64 0] 48) := VR.out.keep bb
  have V1 : Hid (Vb W1 q (mcr H i o (.slice (some ⟨pg, 0, none⟩) 8 pc) (.slice (some ⟨g, 0, none⟩) p p) ca ri) 78) := V0.out.keep bb
  clear hW1 hn b1 bb pu VR V0
  have n0 := VN.out.cell 0 rfl
  have n1 := VN.out.cell 1 rfl
  by_cases hd0 : d = 0
  case neg =>
    have hdb : (d != 0) = true := by simpa using hd0
    have EC : Hid (C = d ∧ Y = 0) := ⟨by rw [← HC.out, plC, HD.out, if_neg hd0], by rw [← HY.out, plV, HD.out, if_neg hd0]⟩
    clear hd0
    have p0 := VR1.out.cell 0 rfl
    have f0 := VR1.out.free 0
    have p1 := VR1.out.cell 1 rfl
    have f1 := VR1.out.free 1
    go_wp2_with fail
    have NN : Hid (_ ∧ _) := twoX VR1.out (.int .i64 d) (.int .i64 0)
    clear p0 f0 p1 f1 n0 n1
    generalize ((W1.setCell ⟨s, 0, none⟩ (.int .i64 d)).setCell ⟨s, 1, none⟩ (.int .i64 0)) = V at *
    have x0 := NN.out.1.cell 0 rfl
    have x1 := NN.out.1.cell 1 rfl
    exact bodyPost_ret (v := .agg #[.int .i64 d, .int .i64 0]) (by simp [results, Tryz.results39, go_sem, x0, x1]) rfl
      ⟨by rw [EC.out.1, EC.out.2], Mq.under B1.out NN.out.2 fun k e => by have := HS.out; omega⟩
  subst hd0
  obtain ⟨sl, so⟩ := sp_ok SN.out HD.out
  have SO : Hid ((spP H ps zs).length = 8 ∧ okTo 8 (spP H ps zs) 8) := ⟨sl, so⟩
  clear sl so
  have HR : Hid ((wkC (spP H ps zs) x k = 0 → C = behC ps (wkV (spP H ps zs) x k) k ∧ Y = behV ps (wkV (spP H ps zs) x k) k) ∧ (¬ wkC (spP H ps zs) x k = 0 → C = wkC (spP H ps zs) x k ∧ Y = wkV (spP H ps zs) x k)) :=
    ⟨fun e => ⟨by rw [← HC.out, plC, if_pos HD.out, if_pos e], by rw [← HY.out, plV, if_pos HD.out, if_pos e]⟩, fun e => ⟨by rw [← HC.out, plC, if_pos HD.out, if_neg e], by rw [← HY.out, plV, if_pos HD.out, if_neg e, wk_zero e]⟩⟩
  go_wp2_with fail
  clear n0 n1
  generalize hW2 : W1.alloc _ = W2
  obtain ⟨S, hSS⟩ : ∃ S, W1.heap.size = S := ⟨_, rfl⟩
  rw [hSS]
  have b2 : Below W1.heap.size W1 W2 := by rw [← hW2]; exact al (Below.refl _ _) _
  have S0 : W2.cell? ⟨S, 0, none⟩ = some (.func (.func 82) #[.slice ua ul uc] #[]) := by rw [← hW2, ← hSS]; exact cell_new rfl
  have S1 : W2.cell? ⟨S, 1, none⟩ = some (.func (.func 83) #[.pointer (some ⟨q, 0, none⟩)] #[]) := by rw [← hW2, ← hSS]; exact cell_new rfl
  have B2 : Hid (Below w.heap.size w W2) := on B1.out b2
  have VR2 : Hid (Vb W2 s #[.int .i64 0, .int .i64 0] 48) := VR1.out.keep b2
  have V2 : Hid (Vb W2 q (mcr H i o (.slice (some ⟨pg, 0, none⟩) 8 pc) (.slice (some ⟨g, 0, none⟩) p p) ca ri) 78) := V1.out.keep b2
  have PU2 : Hid (Prs 36 W2 W.heap.size (.slice ua ul uc) (spP H ps zs)) := PU.out.keep b2
  clear hW2 hSS b2
  refine (i_through2 x k S q (.slice ua ul uc) (wkC (spP H ps zs) x k) (wkV (spP H ps zs) x k) (behC ps (wkV (spP H ps zs) x k) k) (behV ps (wkV (spP H ps zs) x k) k) C Y W2 (block_of_cell S0) S0 S1
    (fun u hu => impl_walk _ (spP H ps zs) x k W.heap.size u (PU2.out.keep hu) SO.out.1 (okTo_up SO.out.2))
    (fun e u hu => by
      obtain ⟨_, _, l0, l63⟩ := sp_goes SO.out.2 HK.out e
      exact i_behind q i o H pg pc ps g p ca ri b u (V2.out.keep hu) (HP.out.keep (on B2.out hu)) SN.out.l8 SN.out.ok _ k l0 l63) HR.out).mono ?_
  rintro e w3 ⟨rfl, b3⟩
  have B3 : Hid (Below w.heap.size w w3) := on B2.out b3
  have VR3 : Hid (Vb w3 s #[.int .i64 0, .int .i64 0] 48) := VR2.out.keep b3
  clear b3 S0 S1
  have p0 := VR3.out.cell 0 rfl
  have f0 := VR3.out.free 0
  have p1 := VR3.out.cell 1 rfl
  have f1 := VR3.out.free 1
  go_wp2_with fail
  have NN : Hid (_ ∧ _) := twoX VR3.out (.int .i64 C) (.int .i64 Y)
  clear p0 f0 p1 f1
  generalize ((w3.setCell ⟨s, 0, none⟩ (.int .i64 C)).setCell ⟨s, 1, none⟩ (.int .i64 Y)) = V at *
  have x0 := NN.out.1.cell 0 rfl
  have x1 := NN.out.1.cell 1 rfl
  exact bodyPost_ret (v := .agg #[.int .i64 C, .int .i64 Y]) (by simp [results, Tryz.results39, go_sem, x0, x1]) rfl
    ⟨rfl, Mq.under B3.out NN.out.2 fun k e => by have := HS.out; omega⟩
set_option maxHeartbeats 2000000 in
theorem i_wordAt (q : Nat) (i o : Value) (H : Ht) (l : Value) (g p : Nat) (zs : List Int) (ca ri : Int) (b : Nat) (w : World) (hv : Vb w q (mcr H i o l (.slice (some ⟨g, 0, none⟩) p p) ca ri) 78) (hG : Pags w b (.slice (some ⟨g, 0, none⟩) p p) p zs) (a : Nat) (ha : a < p * 8) (hp : p ≤ 24) :
    Calls Tryz.prog 41 #[.pointer (some ⟨q, 0, none⟩), .int .i64 (a : Int)] w fun e w' => e = .returned (.int .i64 (zs.getD a 0)) ∧ w' = w := by
  have c35 : w.cell? ⟨q, 35, none⟩ = some (.slice (some ⟨g, 0, none⟩) p p) := hv.cell 35 rfl
  obtain ⟨m, hm⟩ : ∃ m, a / 8 = m := ⟨_, rfl⟩
  obtain ⟨r, hr⟩ : ∃ r, a % 8 = r := ⟨_, rfl⟩
  have hmr : a = m * 8 + r := by omega
  have cg : w.cell? ⟨g, m * 8 + r, none⟩ = some (.int .i64 (zs.getD a 0)) := by rw [← hmr]; exact hG.cell a ha
  have td : Int.tdiv (a : Int) 8 = (m : Int) := by rw [Int.tdiv_eq_ediv_of_nonneg (by omega)]; omega
  have tm : Int.tmod (a : Int) 8 = (r : Int) := by rw [Int.tmod_eq_emod_of_nonneg (by omega)]; omega
  have h1 : (m : Int) < (p : Int) := by omega
  have h2 : m < p := by omega
  have h3 : (r : Int) < 8 := by omega
  have h4 : r < 8 := by omega
  have hai : (a : Int) ≤ 192 := by omega
  have hwm : wrap64 (m : Int) = (m : Int) := by unfold wrap64; omega
  generalize zs.getD a 0 = z at *
  clear hm hr hmr hv hG ha hp
  go_enter Tryz.func41, Tryz.ntmps41
  go_wp2_with fail
  go_ret
  exact ⟨rfl, rfl⟩
set_option maxRecDepth 20000 in
set_option maxHeartbeats 4000000 in
theorem i_queue_full (m j : Nat) (v : Value) (zs : List Int) (a : Option Addr) (n c : Nat) (b : Nat) (w : World) (hj : w.cell? ⟨m, j, none⟩ = some v) (hN : Nums w b v zs) (hz : zs.length ≤ 40) (hn : n ≤ 100000000) (hf : ¬ zs.length + n ≤ 40) :
    Calls Tryz.prog 163 #[.pointer (some ⟨m, j, none⟩), .slice a n c] w fun e w' => e = .returned (.bool false) ∧ w' = w := by
  obtain ⟨x, cap, rfl, _⟩ := hN.shape
  clear hN
  generalize zs.length = l at *
  have h1 : (l : Int) ≤ 40 := by omega
  have h2 : (40 : Int) - (l : Int) < (n : Int) := by omega
  have h3 : (n : Int) ≤ 100000000 := by omega
  clear hz hn hf
  go_enter Tryz.func163, Tryz.ntmps163
  go_wp2_with fail
  go_ret
  exact ⟨rfl, rfl⟩
set_option maxRecDepth 20000 in
set_option maxHeartbeats 4000000 in
theorem i_queue (m j : Nat) (cs : Array Value) (t : TypeId) (v : Value) (zs : List Int) (a : Option Addr) (n c : Nat) (ys : List Int) (b : Nat) (w : World) (hv : Vb w m cs t) (hj : cs[j]? = some v) (hN : Nums w b v zs) (ht : t ≠ 2) (hR : Rn w a n c ys) (hf : zs.length + n ≤ 40) (hb : b ≤ w.heap.size) :
    Calls Tryz.prog 163 #[.pointer (some ⟨m, j, none⟩), .slice a n c] w fun e w' => e = .returned (.bool true) ∧ ∃ v', Nums w' b v' (zs ++ ys) ∧ Vb w' m (cs.setIfInBounds j v') t ∧ Mq (fun k => k = m ∨ v.ownBlock = some k) w w' := by
  obtain ⟨x, cap, rfl, _⟩ := hN.shape
  obtain ⟨l, hl⟩ : ∃ l, zs.length = l := ⟨_, rfl⟩
  rw [hl] at hN hj hf ⊢
  have HL : Hid (zs.length = l) := hl
  have HF : Hid (l + n ≤ 40) := hf
  have HN : Hid (Nums w b (.slice x l cap) zs) := hN
  have HV : Hid (Vb w m cs t) := hv
  have HT : Hid (t ≠ 2) := ht
  have HR : Hid (Rn w a n c ys) := hR
  have HB : Hid (b ≤ w.heap.size) := hb
  have h1 : (l : Int) ≤ 40 := by omega
  have h2 : ¬ (40 : Int) - (l : Int) < (n : Int) := by omega
  have h3 : (n : Int) ≤ 100000000 := by omega
  have c0 : w.cell? ⟨m, j, none⟩ = some (.slice x l cap) := hv.cell j hj
  have f0 := hv.free j
  clear hl hf hN hv ht hR hb hj
  have HC : Hid (∃ u, cs[j]? = some u) := by
    show ∃ u, _
    have : w.cell? ⟨m, j, none⟩ = some (.slice x l cap) := c0
    have hv := HV.out
    unfold Vb at hv
    simp [World.cell?, hv] at this
    exact ⟨_, this⟩
  obtain ⟨u, hu⟩ := HC.out
  have HU : Hid (cs[j]? = some u) := hu
  clear hu HC
  go_enter Tryz.func163, Tryz.ntmps163
  go_wp2_with (at_builtin; refine wp_appy _ rfl _ _ rfl b _ zs rfl HN.out a n c ys rfl HR.out (by have := HL.out; have := HF.out; omega) HB.out ?_; intro v' w' hN' hG'; obtain ⟨y, cap', hv', _⟩ := hN'.shape; obtain ⟨L, hL⟩ : ∃ L, (zs ++ ys).length = L := ⟨_, rfl⟩; rw [hL] at hv'; clear hL; subst hv'; have N1 : Hid (Nums w' b (.slice y L cap') (zs ++ ys)) := hN'; have G1 : Hid (w.grownBy w' (Value.slice x l cap).ownBlock) := hG'; have V1 : Hid (Vb w' m cs t) := HV.out.gr hG' fun e => HN.out.ne_vb HV.out HT.out e.symm; clear hN' hG' c0 f0; have c1 := V1.out.cell j HU.out; have f1 := V1.out.free j)
  go_ret
  refine ⟨rfl, _, ?_, V1.out.set j _, ?_⟩
  · exact N1.out.put ⟨m, j, none⟩ _ (N1.out.ne_vb V1.out HT.out)
  · exact (Mq.of G1.out fun k e => .inr e.symm).set ⟨m, j, none⟩ _ (.inl rfl)
structure Si (w u : World) (m : Nat) (i o i' o' : Value) (G : Ht) : Prop where
  v : Vb u m (mca G i' o') 74
  ri : Rv u i' G.inn
  ro : Rv u o' G.out
  g : Mq (fun j => j = m ∨ i.ownBlock = some j ∨ o.ownBlock = some j) w u
theorem Si.set {w w' : World} {b m : Nat} {i o : Value} {H G : Ht} (hv : Vb w m (mca H i o) 74) (hi : Nums w b i H.inn) (ho : Nums w b o H.out) (hv' : Vb w' m (mca G i o) 74) (hm : Mq (fun j => j = m) w w') (e1 : G.inn = H.inn) (e2 : G.out = H.out) : Si w w' m i o i o G :=
  ⟨hv', by rw [e1]; exact (hm.nums hi fun k e f => hi.ne_vb (t := 74) hv (by decide) (by rw [e, f])).rv, by rw [e2]; exact (hm.nums ho fun k e f => ho.ne_vb (t := 74) hv (by decide) (by rw [e, f])).rv, ⟨hm.os, hm.tape, hm.output, hm.size, fun k hk hn => hm.block k hk fun e => hn (.inl e)⟩⟩
theorem Si.pre {w u : World} {x : Obj} {m : Nat} {i o i' o' : Value} {G : Ht} (h : Si (w.alloc x) u m i o i' o' G) : Si w u m i o i' o' G := ⟨h.v, h.ri, h.ro, Mq.pre h.g⟩
theorem drH_ne' (H : Ht) {k : Int} (h : k ≠ 1) : drH H k = H := if_neg h
theorem mcr_store (H : Ht) (xa : Option Addr) (xn xk : Nat) (ya : Option Addr) (yn yk : Nat) (la : Option Addr) (ln lk : Nat) (pa : Option Addr) (pn pk : Nat) (ca ri : Int) (w : World) : (storeCells ⟨w.heap.size, 0, none⟩ (mcr H (.slice xa xn xk) (.slice ya yn yk) (.slice la ln lk) (.slice pa pn pk) ca ri).toList 0).run Tryz.prog (w.alloc (.cells #[.int .i64 0, .int .i64 0, .int .i64 0, .int .i64 0, .int .i64 0, .int .i64 0, .int .i64 0, .int .i64 0, .int .i64 0, .int .i64 0, .int .i64 0, .int .i64 0, .int .i64 0, .int .i64 0, .int .i64 0, .int .i64 0, .int .i64 0, .int .i64 0, .int .i64 0, .int .i64 0, .int .i64 0, .int .i64 0, .int .i64 0, .int .i64 0, .int .i64 0, .int .i64 0, .int .i64 0, .int .i64 0, .bool false, .bool false, .bool false, .int .i64 0, .slice none 0 0, .slice none 0 0, .slice none 0 0, .slice none 0 0, .int .i64 0, .int .i64 0] 78)) = .ok () (w.alloc (.cells (mcr H (.slice xa xn xk) (.slice ya yn yk) (.slice la ln lk) (.slice pa pn pk) ca ri) 78)) :=
  run_storeCells_new (P := Tryz.prog) w 78 #[.int .i64 0, .int .i64 0, .int .i64 0, .int .i64 0, .int .i64 0, .int .i64 0, .int .i64 0, .int .i64 0, .int .i64 0, .int .i64 0, .int .i64 0, .int .i64 0, .int .i64 0, .int .i64 0, .int .i64 0, .int .i64 0, .int .i64 0, .int .i64 0, .int .i64 0, .int .i64 0, .int .i64 0, .int .i64 0, .int .i64 0, .int .i64 0, .int .i64 0, .int .i64 0, .int .i64 0, .int .i64 0, .bool false, .bool false, .bool false, .int .i64 0, .slice none 0 0, .slice none 0 0, .slice none 0 0, .slice none 0 0, .int .i64 0, .int .i64 0] (mcr H (.slice xa xn xk) (.slice ya yn yk) (.slice la ln lk) (.slice pa pn pk) ca ri) (by kernel_rfl) rfl (mcr_one H (.slice xa xn xk) (.slice ya yn yk) (.slice la ln lk) (.slice pa pn pk) ca ri rfl rfl rfl rfl)
theorem Pags.mono {w : World} {base base' : Nat} {v : Value} {n : Nat} {zs : List Int} (h : Pags w base v n zs) (hb : base' ≤ base) : Pags w base' v n zs := by
  obtain ⟨h1, h2 | ⟨g, cap, cur, hv, hg, rest⟩⟩ := h
  · exact ⟨h1, .inl h2⟩
  · exact ⟨h1, .inr ⟨g, cap, cur, hv, Nat.le_trans hb hg, rest⟩⟩
theorem pl_run {H : Ht} {ps : List (Int × Int)} {zs : List Int} {p : Nat} {x : Int} (s : Sn H ps zs p) (h : plC H ps zs x 4 = 0) : ∃ a : Nat, plV H ps zs x 4 = (a : Int) ∧ a < p * 8 := by
  by_cases h1 : spC H ps = 0
  · unfold plC at h
    unfold plV
    rw [if_pos h1] at h ⊢
    by_cases h2 : wkC (spP H ps zs) x 4 = 0
    · rw [if_pos h2] at h ⊢
      unfold behC at h
      unfold behV
      by_cases h3 : wkV (spP H ps zs) x 4 / 8 = 7
      · rw [if_pos h3] at h
        exact absurd h (by decide)
      · rw [if_neg h3] at h ⊢
        generalize wkV (spP H ps zs) x 4 = y at *
        have hg : goesB ps y 4 = true := by
          cases hg : goesB ps y 4
          · unfold wkC at h
            rw [hg] at h
            exact absurd h (by decide)
          · rfl
        have e : wkV ps y 4 = goesTo ps y := by unfold wkV; rw [hg]; rfl
        obtain ⟨h0, h63, h4, h5⟩ := goes_in s.ok hg
        have h6 := s.tl (y / 8).toNat (by omega)
        rw [e]
        unfold goesTo
        refine ⟨((ps.getD (y / 8).toNat (0, 0)).1 * 8 + y % 8).toNat, by omega, by omega⟩
    · rw [if_neg h2] at h
      exact absurd h h2
  · unfold plC at h
    rw [if_neg h1] at h
    exact absurd h h1
end Go.Proofs.YtaefollmeoepkaaGreatDoor
