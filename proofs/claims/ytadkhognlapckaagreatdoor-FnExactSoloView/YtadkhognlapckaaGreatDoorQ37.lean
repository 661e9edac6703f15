/- Texts of this seat, joined. -/
import Derived.Deep.CutRange
import Derived.Test.YtadkhognlapckaaGreatDoorQ10
import Derived.Test.YtadkhognlapckaaGreatDoorQ19
import Derived.Test.YtadkhognlapckaaGreatDoorQ26
import Derived.Test.YtadkhognlapckaaGreatDoorQ27
import Derived.Test.YtadkhognlapckaaGreatDoorQ29
import Derived.Test.YtadkhognlapckaaGreatDoorQ32
import Derived.Test.YtadkhognlapckaaGreatDoorQ34
namespace Go.Proofs.YtadkhognlapckaaGreatDoor
open Go.RowKit
set_option linter.unusedVariables false

theorem Prs.low' {S : Nat → Prop} {e : TypeId} {w w' : World} {b : Nat} {v : Value} {rs : List (Int × Int)} (h : Prs e w b v rs) (m : Mq S w w') (hb : ∀ k, v.ownBlock = some k → ¬ S k) : Prs e w' b v rs := by
  obtain ⟨h1, h2 | ⟨g, cap, cur, hv, hg, hr, rest⟩⟩ := h
  · exact ⟨h1, .inl h2⟩
  · refine ⟨h1, .inr ⟨g, cap, cur, hv, hg, ?_, rest⟩⟩
    rw [m.block g ((Array.getElem?_eq_some_iff.1 hr).1) (hb g (by rw [hv]; rfl))]
    exact hr
/-- A lonely machine whose lists lie in blocks of their own, apart. -/
structure Sm (w : World) (base : Nat) (r c i o l m : Value) (H : Ht) (ps : List (Int × Int)) (zs : List Int) : Prop where
  h : Hm w base r c i o H
  a : Ha r c i o
  pl : Prs 125 w base l ps
  mm : Nums w base m zs
  rm : Apt r m
  cm : Apt c m
  im : Apt i m
  om : Apt o m
theorem Sm.keep {w w' : World} {base : Nat} {r c i o l m : Value} {H : Ht} {ps : List (Int × Int)} {zs : List Int} (s : Sm w base r c i o l m H ps zs) (b : Below w.heap.size w w') : Sm w' base r c i o l m H ps zs :=
  ⟨s.h.keep b, s.a, s.pl.keep b, s.mm.keep b, s.rm, s.cm, s.im, s.om⟩
theorem Sm.mono {w : World} {base base' : Nat} {r c i o l m : Value} {H : Ht} {ps : List (Int × Int)} {zs : List Int} (s : Sm w base r c i o l m H ps zs) (hb : base' ≤ base) : Sm w base' r c i o l m H ps zs :=
  ⟨s.h.mono hb, s.a, s.pl.mono hb, s.mm.mono hb, s.rm, s.cm, s.im, s.om⟩
theorem sz_prs (a : Option Addr) (len cap : Nat) (k : Int) (w : World) (h : len ≤ 9223372036854775807) (h1 : 0 ≤ k) (h2 : k ≤ 1048576) :
    Calls Tryz.prog 22 #[.slice a len cap, .int .i64 k] w fun e w' => e = .returned (.int .i64 (if k - len < 0 then -1 else k - len)) ∧ w' = w := by
  have h3 : (len : Int) ≤ 9223372036854775807 := by omega
  by_cases hk : k - len < 0
  · rw [if_pos hk]
    go_enter Tryz.func22, Tryz.ntmps22
    go_wp2_with fail
    go_ret
    exact ⟨rfl, rfl⟩
  · rw [if_neg hk]
    go_enter Tryz.func22, Tryz.ntmps22
    go_wp2_with fail
    go_ret
    exact ⟨rfl, rfl⟩
theorem IsPairs.max2 {w : World} {a : Option Addr} {len cap : Nat} {rs : List (Int × Int)} (h : IsPairs w a len cap rs) : len ≤ 9223372036854775807 := by
  rcases h with ⟨_, h1, _⟩ | ⟨x, _, h1, h2, _⟩
  · omega
  · unfold maxLen at h2; omega
set_option maxRecDepth 20000 in
set_option maxHeartbeats 8000000 in
theorem to_solo (a0 a1 a2 a3 : Option Addr) (n0 c0 n1 c1 n2 c2 n3 c3 : Nat) (H : Ht) (la : Option Addr) (ln lc : Nat) (ps : List (Int × Int)) (ma : Option Addr) (mn mc : Nat) (zs : List Int) (w : World) (h : Hin w a0 n0 c0 a1 n1 c1 a2 n2 c2 a3 n3 c3 H) (hp : IsPairs w la ln lc ps) (hz : IsRow .i64 w ma mn mc zs) (hs : Hs n0 n1 n2 n3) (hl : ln ≤ 1048576) (hm : mn ≤ 1048576) :
    Calls Tryz.prog 8 #[.agg #[.slice a0 n0 c0, .int .i64 H.pc, .slice a1 n1 c1, .bool H.halted, .bool H.waiting, .bool H.rung, .int .i64 H.done, .slice a2 n2 c2, .slice a3 n3 c3, .slice la ln lc, .slice ma mn mc]] w fun e w' => ∃ r c i o l m, e = .returned (.agg #[r, .int .i64 H.pc, c, .bool H.halted, .bool H.waiting, .bool H.rung, .int .i64 H.done, i, o, l, m]) ∧ Sm w' w.heap.size r c i o l m H ps zs ∧ Below w.heap.size w w' := by
  have HS : Hid (Hs n0 n1 n2 n3 ∧ ln ≤ 1048576 ∧ mn ≤ 1048576) := ⟨hs, hl, hm⟩
  have HP : Hid (Hin w a0 n0 c0 a1 n1 c1 a2 n2 c2 a3 n3 c3 H ∧ IsPairs w la ln lc ps ∧ IsRow .i64 w ma mn mc zs) := ⟨h, hp, hz⟩
  clear h hp hz hs hl hm
  generalize hW : ((w.alloc (.cells #[.slice a0 n0 c0, .int .i64 H.pc, .slice a1 n1 c1, .bool H.halted, .bool H.waiting, .bool H.rung, .int .i64 H.done, .slice a2 n2 c2, .slice a3 n3 c3, .slice la ln lc, .slice ma mn mc] 33)).alloc (.cells #[.slice none 0 0, .int .i64 0, .slice none 0 0, .bool false, .bool false, .bool false, .int .i64 0, .slice none 0 0, .slice none 0 0, .slice none 0 0, .slice none 0 0] 50)).alloc (.cells #[.slice none 0 0, .int .i64 0, .slice none 0 0, .bool false, .bool false, .bool false, .int .i64 0, .slice none 0 0, .slice none 0 0, .slice none 0 0, .slice none 0 0] 50) = W
  obtain ⟨s, hS⟩ : ∃ s, w.heap.size = s := ⟨_, rfl⟩
  have HSs : Hid (w.heap.size = s) := hS
  have SZ : Hid (W.heap.size = s + 3) := by show _ = _; rw [← hW, ← hS]; simp
  have B0 : Hid (Below w.heap.size w W) := by show Below _ _ _; rw [← hW]; exact al (al (al (Below.refl _ _) _) _) _
  have z1 : s + 1 = (w.alloc (.cells #[.slice a0 n0 c0, .int .i64 H.pc, .slice a1 n1 c1, .bool H.halted, .bool H.waiting, .bool H.rung, .int .i64 H.done, .slice a2 n2 c2, .slice a3 n3 c3, .slice la ln lc, .slice ma mn mc] 33)).heap.size := by rw [← hS]; simp
  have z2 : s + 1 + 1 = ((w.alloc (.cells #[.slice a0 n0 c0, .int .i64 H.pc, .slice a1 n1 c1, .bool H.halted, .bool H.waiting, .bool H.rung, .int .i64 H.done, .slice a2 n2 c2, .slice a3 n3 c3, .slice la ln lc, .slice ma mn mc] 33)).alloc (.cells #[.slice none 0 0, .int .i64 0, .slice none 0 0, .bool false, .bool false, .bool false, .int .i64 0, .slice none 0 0, .slice none 0 0, .slice none 0 0, .slice none 0 0] 50)).heap.size := by rw [← hS]; simp
  have QA : Hid (Vb W s #[.slice a0 n0 c0, .int .i64 H.pc, .slice a1 n1 c1, .bool H.halted, .bool H.waiting, .bool H.rung, .int .i64 H.done, .slice a2 n2 c2, .slice a3 n3 c3, .slice la ln lc, .slice ma mn mc] 33) := by show Vb _ _ _ _; rw [← hW, ← hS]; exact ((Vb.new _ _ _).push _).push _
  have QR : Hid (Vb W (s + 1) #[.slice none 0 0, .int .i64 0, .slice none 0 0, .bool false, .bool false, .bool false, .int .i64 0, .slice none 0 0, .slice none 0 0, .slice none 0 0, .slice none 0 0] 50) := by show Vb _ _ _ _; rw [← hW, z1]; exact (Vb.new _ _ _).push _
  have QO : Hid (Vb W (s + 1 + 1) #[.slice none 0 0, .int .i64 0, .slice none 0 0, .bool false, .bool false, .bool false, .int .i64 0, .slice none 0 0, .slice none 0 0, .slice none 0 0, .slice none 0 0] 50) := by show Vb _ _ _ _; rw [← hW, z2]; exact Vb.new _ _ _
  clear z1 z2
  have q0 := QA.out.cell 0 rfl
  have q1 := QA.out.cell 1 rfl
  have q2 := QA.out.cell 2 rfl
  have q3 := QA.out.cell 3 rfl
  have q4 := QA.out.cell 4 rfl
  have q5 := QA.out.cell 5 rfl
  have q6 := QA.out.cell 6 rfl
  have q7 := QA.out.cell 7 rfl
  have q8 := QA.out.cell 8 rfl
  go_enter Tryz.func8, Tryz.ntmps8
  go_wp2_with fail
  clear hW hS q0 q1 q2 q3 q4 q5 q6 q7 q8
  refine (to_hart _ _ _ _ _ _ _ _ _ _ _ _ H _ (HP.out.1.stay B0.out) HS.out.1).mono ?_
  rintro e w1 ⟨r1, d1, i1, o1, rfl, m1, A1, b1⟩
  obtain ⟨xa0, xk0, hr1, _⟩ := m1.r.shape
  obtain ⟨xa1, xk1, hd1, _⟩ := m1.c.shape
  obtain ⟨xa2, xk2, hi1, _⟩ := m1.i.shape
  obtain ⟨xa3, xk3, ho1, _⟩ := m1.o.shape
  have one : r1.oneCell' = true ∧ d1.oneCell' = true ∧ i1.oneCell' = true ∧ o1.oneCell' = true := by rw [hr1, hd1, hi1, ho1]; exact ⟨rfl, rfl, rfl, rfl⟩
  have HR1 : Hid (r1 = .slice xa0 H.regs.length xk0 ∧ d1 = .slice xa1 H.csr.length xk1 ∧ i1 = .slice xa2 H.inn.length xk2 ∧ o1 = .slice xa3 H.out.length xk3) := ⟨hr1, hd1, hi1, ho1⟩
  have M1 : Hid (Hm w1 W.heap.size r1 d1 i1 o1 H) := m1
  have HA : Hid (Ha r1 d1 i1 o1) := A1
  have QA1 : Hid (Vb w1 s #[.slice a0 n0 c0, .int .i64 H.pc, .slice a1 n1 c1, .bool H.halted, .bool H.waiting, .bool H.rung, .int .i64 H.done, .slice a2 n2 c2, .slice a3 n3 c3, .slice la ln lc, .slice ma mn mc] 33) := QA.out.keep b1
  have QR1 : Hid (Vb w1 (s + 1) #[.slice none 0 0, .int .i64 0, .slice none 0 0, .bool false, .bool false, .bool false, .int .i64 0, .slice none 0 0, .slice none 0 0, .slice none 0 0, .slice none 0 0] 50) := QR.out.keep b1
  have QO1 : Hid (Vb w1 (s + 1 + 1) #[.slice none 0 0, .int .i64 0, .slice none 0 0, .bool false, .bool false, .bool false, .int .i64 0, .slice none 0 0, .slice none 0 0, .slice none 0 0, .slice none 0 0] 50) := QO.out.keep b1
  have B1 : Hid (Below w.heap.size w w1) := on B0.out b1
  have ZL : Hid (s + 3 ≤ w1.heap.size) := by show _ ≤ _; have := SZ.out; have := b1.size; omega
  clear m1 A1 b1 QA QR QO one hr1 hd1 hi1 ho1
  obtain ⟨hr, hd, hi, ho⟩ := HR1.out
  subst hr hd hi ho
  generalize hn0 : H.regs.length = rn at *
  generalize hn1 : H.csr.length = dn at *
  generalize hn2 : H.inn.length = inn at *
  generalize hn3 : H.out.length = on0 at *
  clear hn0 hn1 hn2 hn3 HR1
  have p0 := QO1.out.cell 0 rfl
  have p1 := QO1.out.cell 1 rfl
  have p2 := QO1.out.cell 2 rfl
  have p3 := QO1.out.cell 3 rfl
  have p4 := QO1.out.cell 4 rfl
  have p5 := QO1.out.cell 5 rfl
  have p6 := QO1.out.cell 6 rfl
  have p7 := QO1.out.cell 7 rfl
  have p8 := QO1.out.cell 8 rfl
  have f0 := QO1.out.free 0
  have f1 := QO1.out.free 1
  have f2 := QO1.out.free 2
  have f3 := QO1.out.free 3
  have f4 := QO1.out.free 4
  have f5 := QO1.out.free 5
  have f6 := QO1.out.free 6
  have f7 := QO1.out.free 7
  have f8 := QO1.out.free 8
  have e9 := QA1.out.cell 9 rfl
  have NN : Hid (_ ∧ _) := nineIn QO1.out (.slice xa0 rn xk0) (.int .i64 H.pc) (.slice xa1 dn xk1) (.bool H.halted) (.bool H.waiting) (.bool H.rung) (.int .i64 H.done) (.slice xa2 inn xk2) (.slice xa3 on0 xk3)
  go_wp2_with fail
  generalize (((((((((w1.setCell ⟨s + 1 + 1, 0, none⟩ (.slice xa0 rn xk0)).setCell ⟨s + 1 + 1, 1, none⟩ (.int .i64 H.pc)).setCell ⟨s + 1 + 1, 2, none⟩ (.slice xa1 dn xk1)).setCell ⟨s + 1 + 1, 3, none⟩ (.bool H.halted)).setCell ⟨s + 1 + 1, 4, none⟩ (.bool H.waiting)).setCell ⟨s + 1 + 1, 5, none⟩ (.bool H.rung)).setCell ⟨s + 1 + 1, 6, none⟩ (.int .i64 H.done)).setCell ⟨s + 1 + 1, 7, none⟩ (.slice xa2 inn xk2)).setCell ⟨s + 1 + 1, 8, none⟩ (.slice xa3 on0 xk3)) = v1 at *
  clear p0 p1 p2 p3 p4 p5 p6 p7 p8 f0 f1 f2 f3 f4 f5 f6 f7 f8 e9
  have QA2 : Hid (Vb v1 s #[.slice a0 n0 c0, .int .i64 H.pc, .slice a1 n1 c1, .bool H.halted, .bool H.waiting, .bool H.rung, .int .i64 H.done, .slice a2 n2 c2, .slice a3 n3 c3, .slice la ln lc, .slice ma mn mc] 33) := NN.out.2.vb QA1.out (by omega)
  have QR2 : Hid (Vb v1 (s + 1) #[.slice none 0 0, .int .i64 0, .slice none 0 0, .bool false, .bool false, .bool false, .int .i64 0, .slice none 0 0, .slice none 0 0, .slice none 0 0, .slice none 0 0] 50) := NN.out.2.vb QR1.out (by omega)
  have B2 : Hid (Below w.heap.size w v1) := Mq.under B1.out NN.out.2 fun k e => by have := HSs.out; omega
  have O1 : Hid (Ho (s + 3) w1 v1) := NN.out.2.ho fun k e => by omega
  have MV1 : Hid (Hm v1 (s + 3) (.slice xa0 rn xk0) (.slice xa1 dn xk1) (.slice xa2 inn xk2) (.slice xa3 on0 xk3) H) := (M1.out.mono (by have := SZ.out; omega)).ho O1.out
  clear QA1 QR1 QO1 M1 B1
  refine (to_pages _ _ _ _ _ (HP.out.2.1.stay B2.out) HS.out.2.1).mono ?_
  rintro e w2 ⟨g1, rfl, l2, b2⟩
  have L2 : Hid (Prs 125 w2 v1.heap.size (.slice (some ⟨g1, 0, none⟩) ln ln) ps) := l2
  have MV2 : Hid (Hm w2 (s + 3) (.slice xa0 rn xk0) (.slice xa1 dn xk1) (.slice xa2 inn xk2) (.slice xa3 on0 xk3) H) := MV1.out.keep b2
  have QO2 : Hid (Vb w2 (s + 1 + 1) #[.slice xa0 rn xk0, .int .i64 H.pc, .slice xa1 dn xk1, .bool H.halted, .bool H.waiting, .bool H.rung, .int .i64 H.done, .slice xa2 inn xk2, .slice xa3 on0 xk3, .slice none 0 0, .slice none 0 0] 50) := NN.out.1.keep b2
  have QA3 : Hid (Vb w2 s #[.slice a0 n0 c0, .int .i64 H.pc, .slice a1 n1 c1, .bool H.halted, .bool H.waiting, .bool H.rung, .int .i64 H.done, .slice a2 n2 c2, .slice a3 n3 c3, .slice la ln lc, .slice ma mn mc] 33) := QA2.out.keep b2
  have QR3 : Hid (Vb w2 (s + 1) #[.slice none 0 0, .int .i64 0, .slice none 0 0, .bool false, .bool false, .bool false, .int .i64 0, .slice none 0 0, .slice none 0 0, .slice none 0 0, .slice none 0 0] 50) := QR2.out.keep b2
  have B3 : Hid (Below w.heap.size w w2) := on B2.out b2
  have Z2 : Hid (s + 3 ≤ v1.heap.size) := by show _ ≤ _; have := NN.out.1.lt; omega
  clear l2 b2 MV1 QA2 QR2 B2 NN
  have p9 := QO2.out.cell 9 rfl
  have f9 := QO2.out.free 9
  have e10 := QA3.out.cell 10 rfl
  go_wp2_with fail
  clear p9 f9 e10
  have QO3 : Hid (Vb (w2.setCell ⟨s + 1 + 1, 9, none⟩ (.slice (some ⟨g1, 0, none⟩) ln ln)) (s + 1 + 1) #[.slice xa0 rn xk0, .int .i64 H.pc, .slice xa1 dn xk1, .bool H.halted, .bool H.waiting, .bool H.rung, .int .i64 H.done, .slice xa2 inn xk2, .slice xa3 on0 xk3, .slice (some ⟨g1, 0, none⟩) ln ln, .slice none 0 0] 50) := QO2.out.set 9 _
  have m9 : Mq (fun k => k = s + 1 + 1) w2 (w2.setCell ⟨s + 1 + 1, 9, none⟩ (.slice (some ⟨g1, 0, none⟩) ln ln)) := (Mq.refl _ _).set ⟨s + 1 + 1, 9, none⟩ _ rfl
  have QA4 : Hid (Vb (w2.setCell ⟨s + 1 + 1, 9, none⟩ (.slice (some ⟨g1, 0, none⟩) ln ln)) s #[.slice a0 n0 c0, .int .i64 H.pc, .slice a1 n1 c1, .bool H.halted, .bool H.waiting, .bool H.rung, .int .i64 H.done, .slice a2 n2 c2, .slice a3 n3 c3, .slice la ln lc, .slice ma mn mc] 33) := m9.vb QA3.out (by omega)
  have QR4 : Hid (Vb (w2.setCell ⟨s + 1 + 1, 9, none⟩ (.slice (some ⟨g1, 0, none⟩) ln ln)) (s + 1) #[.slice none 0 0, .int .i64 0, .slice none 0 0, .bool false, .bool false, .bool false, .int .i64 0, .slice none 0 0, .slice none 0 0, .slice none 0 0, .slice none 0 0] 50) := m9.vb QR3.out (by omega)
  have B4 : Hid (Below w.heap.size w (w2.setCell ⟨s + 1 + 1, 9, none⟩ (.slice (some ⟨g1, 0, none⟩) ln ln))) := Mq.under B3.out m9 fun k e => by have := HSs.out; omega
  have O2 : Ho (s + 3) w2 (w2.setCell ⟨s + 1 + 1, 9, none⟩ (.slice (some ⟨g1, 0, none⟩) ln ln)) := m9.ho fun k e => by omega
  have MV3 : Hid (Hm (w2.setCell ⟨s + 1 + 1, 9, none⟩ (.slice (some ⟨g1, 0, none⟩) ln ln)) (s + 3) (.slice xa0 rn xk0) (.slice xa1 dn xk1) (.slice xa2 inn xk2) (.slice xa3 on0 xk3) H) := MV2.out.ho O2
  have L3 : Hid (Prs 125 (w2.setCell ⟨s + 1 + 1, 9, none⟩ (.slice (some ⟨g1, 0, none⟩) ln ln)) (s + 3) (.slice (some ⟨g1, 0, none⟩) ln ln) ps) := (L2.out.mono Z2.out).put _ _ (fun e => by have h1 : v1.heap.size ≤ s + 1 + 1 := (L2.out.lt _ e).1; have := Z2.out; omega)
  clear m9 O2 QA3 QR3 QO2 B3 MV2 L2
  generalize w2.setCell ⟨s + 1 + 1, 9, none⟩ (.slice (some ⟨g1, 0, none⟩) ln ln) = v2 at *
  refine (to_nums _ _ _ _ _ (HP.out.2.2.stay B4.out) HS.out.2.2).mono ?_
  rintro e w3 ⟨g2, rfl, n3', b3⟩
  have N3 : Hid (Nums w3 v2.heap.size (.slice (some ⟨g2, 0, none⟩) mn mn) zs) := n3'
  have MA : Hid (Apt (.slice xa0 rn xk0) (.slice (some ⟨g2, 0, none⟩) mn mn) ∧ Apt (.slice xa1 dn xk1) (.slice (some ⟨g2, 0, none⟩) mn mn) ∧ Apt (.slice xa2 inn xk2) (.slice (some ⟨g2, 0, none⟩) mn mn) ∧ Apt (.slice xa3 on0 xk3) (.slice (some ⟨g2, 0, none⟩) mn mn)) := ⟨MV3.out.r.apt n3' (Nat.le_refl _), MV3.out.c.apt n3' (Nat.le_refl _), MV3.out.i.apt n3' (Nat.le_refl _), MV3.out.o.apt n3' (Nat.le_refl _)⟩
  have MV4 : Hid (Hm w3 (s + 3) (.slice xa0 rn xk0) (.slice xa1 dn xk1) (.slice xa2 inn xk2) (.slice xa3 on0 xk3) H) := MV3.out.keep b3
  have L4 : Hid (Prs 125 w3 (s + 3) (.slice (some ⟨g1, 0, none⟩) ln ln) ps) := L3.out.keep b3
  have QO4 : Hid (Vb w3 (s + 1 + 1) #[.slice xa0 rn xk0, .int .i64 H.pc, .slice xa1 dn xk1, .bool H.halted, .bool H.waiting, .bool H.rung, .int .i64 H.done, .slice xa2 inn xk2, .slice xa3 on0 xk3, .slice (some ⟨g1, 0, none⟩) ln ln, .slice none 0 0] 50) := QO3.out.keep b3
  have QR5 : Hid (Vb w3 (s + 1) #[.slice none 0 0, .int .i64 0, .slice none 0 0, .bool false, .bool false, .bool false, .int .i64 0, .slice none 0 0, .slice none 0 0, .slice none 0 0, .slice none 0 0] 50) := QR4.out.keep b3
  have B5 : Hid (Below w.heap.size w w3) := on B4.out b3
  have Z3 : Hid (s + 3 ≤ v2.heap.size) := by show _ ≤ _; have := QO3.out.lt; omega
  clear n3' b3 MV3 L3 QO3 QR4 QA4 B4
  have p10 := QO4.out.cell 10 rfl
  have f10 := QO4.out.free 10
  have m10 : Mq (fun k => k = s + 1 + 1) w3 (w3.setCell ⟨s + 1 + 1, 10, none⟩ (.slice (some ⟨g2, 0, none⟩) mn mn)) := (Mq.refl _ _).set ⟨s + 1 + 1, 10, none⟩ _ rfl
  have QO5 : Hid (Vb (w3.setCell ⟨s + 1 + 1, 10, none⟩ (.slice (some ⟨g2, 0, none⟩) mn mn)) (s + 1 + 1) #[.slice xa0 rn xk0, .int .i64 H.pc, .slice xa1 dn xk1, .bool H.halted, .bool H.waiting, .bool H.rung, .int .i64 H.done, .slice xa2 inn xk2, .slice xa3 on0 xk3, .slice (some ⟨g1, 0, none⟩) ln ln, .slice (some ⟨g2, 0, none⟩) mn mn] 50) := QO4.out.set 10 _
  have QR6 : Hid (Vb (w3.setCell ⟨s + 1 + 1, 10, none⟩ (.slice (some ⟨g2, 0, none⟩) mn mn)) (s + 1) #[.slice none 0 0, .int .i64 0, .slice none 0 0, .bool false, .bool false, .bool false, .int .i64 0, .slice none 0 0, .slice none 0 0, .slice none 0 0, .slice none 0 0] 50) := m10.vb QR5.out (by omega)
  have O3 : Ho (s + 3) w3 (w3.setCell ⟨s + 1 + 1, 10, none⟩ (.slice (some ⟨g2, 0, none⟩) mn mn)) := m10.ho fun k e => by omega
  have B6 : Hid (Below w.heap.size w (w3.setCell ⟨s + 1 + 1, 10, none⟩ (.slice (some ⟨g2, 0, none⟩) mn mn))) := Mq.under B5.out m10 fun k e => by have := HSs.out; omega
  have MV5 : Hid (Hm (w3.setCell ⟨s + 1 + 1, 10, none⟩ (.slice (some ⟨g2, 0, none⟩) mn mn)) (s + 3) (.slice xa0 rn xk0) (.slice xa1 dn xk1) (.slice xa2 inn xk2) (.slice xa3 on0 xk3) H) := MV4.out.ho O3
  have N5 : Hid (Nums (w3.setCell ⟨s + 1 + 1, 10, none⟩ (.slice (some ⟨g2, 0, none⟩) mn mn)) (s + 3) (.slice (some ⟨g2, 0, none⟩) mn mn) zs) := (N3.out.mono Z3.out).ho O3
  have L5 : Hid (Prs 125 (w3.setCell ⟨s + 1 + 1, 10, none⟩ (.slice (some ⟨g2, 0, none⟩) mn mn)) (s + 3) (.slice (some ⟨g1, 0, none⟩) ln ln) ps) := L4.out.put _ _ (fun e => by have h1 : s + 3 ≤ s + 1 + 1 := (L4.out.lt _ e).1; omega)
  go_upto_region 5 with fail
  clear p10 f10 m10 O3 QO4 QR5 MV4 N3 L4 B5
  generalize w3.setCell ⟨s + 1 + 1, 10, none⟩ (.slice (some ⟨g2, 0, none⟩) mn mn) = v3 at *
  have p0 := QO5.out.cell 0 rfl
  have p1 := QO5.out.cell 1 rfl
  have p2 := QO5.out.cell 2 rfl
  have p3 := QO5.out.cell 3 rfl
  have p4 := QO5.out.cell 4 rfl
  have p5 := QO5.out.cell 5 rfl
  have p6 := QO5.out.cell 6 rfl
  have p7 := QO5.out.cell 7 rfl
  have p8 := QO5.out.cell 8 rfl
  have p9 := QO5.out.cell 9 rfl
  have p10 := QO5.out.cell 10 rfl
  have y0 := QR6.out.cell 0 rfl
  have y1 := QR6.out.cell 1 rfl
  have y2 := QR6.out.cell 2 rfl
  have y3 := QR6.out.cell 3 rfl
  have y4 := QR6.out.cell 4 rfl
  have y5 := QR6.out.cell 5 rfl
  have y6 := QR6.out.cell 6 rfl
  have y7 := QR6.out.cell 7 rfl
  have y8 := QR6.out.cell 8 rfl
  have y9 := QR6.out.cell 9 rfl
  have y10 := QR6.out.cell 10 rfl
  have f0 := QR6.out.free 0
  have f1 := QR6.out.free 1
  have f2 := QR6.out.free 2
  have f3 := QR6.out.free 3
  have f4 := QR6.out.free 4
  have f5 := QR6.out.free 5
  have f6 := QR6.out.free 6
  have f7 := QR6.out.free 7
  have f8 := QR6.out.free 8
  have f9 := QR6.out.free 9
  have f10 := QR6.out.free 10
  have NR : Hid (_ ∧ _) := elevenX QR6.out (.slice xa0 rn xk0) (.int .i64 H.pc) (.slice xa1 dn xk1) (.bool H.halted) (.bool H.waiting) (.bool H.rung) (.int .i64 H.done) (.slice xa2 inn xk2) (.slice xa3 on0 xk3) (.slice (some ⟨g1, 0, none⟩) ln ln) (.slice (some ⟨g2, 0, none⟩) mn mn)
  go_wp2_with fail
  clear p0 p1 p2 p3 p4 p5 p6 p7 p8 p9 p10 y0 y1 y2 y3 y4 y5 y6 y7 y8 y9 y10 f0 f1 f2 f3 f4 f5 f6 f7 f8 f9 f10
  generalize (((((((((((v3.setCell ⟨s + 1, 0, none⟩ (.slice xa0 rn xk0)).setCell ⟨s + 1, 1, none⟩ (.int .i64 H.pc)).setCell ⟨s + 1, 2, none⟩ (.slice xa1 dn xk1)).setCell ⟨s + 1, 3, none⟩ (.bool H.halted)).setCell ⟨s + 1, 4, none⟩ (.bool H.waiting)).setCell ⟨s + 1, 5, none⟩ (.bool H.rung)).setCell ⟨s + 1, 6, none⟩ (.int .i64 H.done)).setCell ⟨s + 1, 7, none⟩ (.slice xa2 inn xk2)).setCell ⟨s + 1, 8, none⟩ (.slice xa3 on0 xk3)).setCell ⟨s + 1, 9, none⟩ (.slice (some ⟨g1, 0, none⟩) ln ln)).setCell ⟨s + 1, 10, none⟩ (.slice (some ⟨g2, 0, none⟩) mn mn)) = V at *
  have O4 : Ho (s + 3) v3 V := NR.out.2.ho fun k e => by omega
  have B7 : Hid (Below w.heap.size w V) := Mq.under B6.out NR.out.2 fun k e => by have := HSs.out; omega
  have SS : Hid (Sm V w.heap.size (.slice xa0 rn xk0) (.slice xa1 dn xk1) (.slice xa2 inn xk2) (.slice xa3 on0 xk3) (.slice (some ⟨g1, 0, none⟩) ln ln) (.slice (some ⟨g2, 0, none⟩) mn mn) H ps zs) := ⟨(MV5.out.ho O4).mono (by have := HSs.out; omega), HA.out, by
      have := L5.out.low' NR.out.2 (fun k e f => by have := (L5.out.lt k e).1; omega)
      exact this.mono (by have := HSs.out; omega), (N5.out.ho O4).mono (by have := HSs.out; omega), MA.out.1, MA.out.2.1, MA.out.2.2.1, MA.out.2.2.2⟩
  have x0 := NR.out.1.cell 0 rfl
  have x1 := NR.out.1.cell 1 rfl
  have x2 := NR.out.1.cell 2 rfl
  have x3 := NR.out.1.cell 3 rfl
  have x4 := NR.out.1.cell 4 rfl
  have x5 := NR.out.1.cell 5 rfl
  have x6 := NR.out.1.cell 6 rfl
  have x7 := NR.out.1.cell 7 rfl
  have x8 := NR.out.1.cell 8 rfl
  have x9 := NR.out.1.cell 9 rfl
  have x10 := NR.out.1.cell 10 rfl
  exact bodyPost_ret (v := .agg #[.slice xa0 rn xk0, .int .i64 H.pc, .slice xa1 dn xk1, .bool H.halted, .bool H.waiting, .bool H.rung, .int .i64 H.done, .slice xa2 inn xk2, .slice xa3 on0 xk3, .slice (some ⟨g1, 0, none⟩) ln ln, .slice (some ⟨g2, 0, none⟩) mn mn]) (by simp [results, Tryz.results8, go_sem, x0, x1, x2, x3, x4, x5, x6, x7, x8, x9, x10]) rfl
    ⟨_, _, _, _, _, _, rfl, SS.out, B7.out⟩
set_option maxRecDepth 20000 in
set_option maxHeartbeats 8000000 in
theorem eq_solo (r c i o l m r' c' i' o' l' m' : Value) (H : Ht) (ps : List (Int × Int)) (zs : List Int) (b b' : Nat) (w : World) (h : Sm w b r c i o l m H ps zs) (k : Sm w b' r' c' i' o' l' m' H ps zs) :
    Calls Tryz.prog 12 #[.agg #[r, .int .i64 H.pc, c, .bool H.halted, .bool H.waiting, .bool H.rung, .int .i64 H.done, i, o, l, m], .agg #[r', .int .i64 H.pc, c', .bool H.halted, .bool H.waiting, .bool H.rung, .int .i64 H.done, i', o', l', m']] w fun e w' => e = .returned (.bool true) ∧ Below w.heap.size w w' := by
  have HS : Hid (Sm w b r c i o l m H ps zs) := h
  have KS : Hid (Sm w b' r' c' i' o' l' m' H ps zs) := k
  obtain ⟨ha0, hk0, eh0, _⟩ := h.h.r.shape
  obtain ⟨ha1, hk1, eh1, _⟩ := h.h.c.shape
  obtain ⟨ha2, hk2, eh2, _⟩ := h.h.i.shape
  obtain ⟨ha3, hk3, eh3, _⟩ := h.h.o.shape
  obtain ⟨ha4, hk4, eh4, _⟩ := h.pl.shape
  obtain ⟨ha5, hk5, eh5, _⟩ := h.mm.shape
  obtain ⟨ka0, kk0, ek0, _⟩ := k.h.r.shape
  obtain ⟨ka1, kk1, ek1, _⟩ := k.h.c.shape
  obtain ⟨ka2, kk2, ek2, _⟩ := k.h.i.shape
  obtain ⟨ka3, kk3, ek3, _⟩ := k.h.o.shape
  obtain ⟨ka4, kk4, ek4, _⟩ := k.pl.shape
  obtain ⟨ka5, kk5, ek5, _⟩ := k.mm.shape
  clear h k
  subst eh0 ek0 eh1 ek1 eh2 ek2 eh3 ek3 eh4 ek4 eh5 ek5
  generalize hn0 : H.regs.length = n0 at *
  generalize hn1 : H.csr.length = n1 at *
  generalize hn2 : H.inn.length = n2 at *
  generalize hn3 : H.out.length = n3 at *
  generalize hn4 : ps.length = n4 at *
  generalize hn5 : zs.length = n5 at *
  clear hn0 hn1 hn2 hn3 hn4 hn5
  generalize hW : (w.alloc (.cells #[.slice ha0 n0 hk0, .int .i64 H.pc, .slice ha1 n1 hk1, .bool H.halted, .bool H.waiting, .bool H.rung, .int .i64 H.done, .slice ha2 n2 hk2, .slice ha3 n3 hk3, .slice ha4 n4 hk4, .slice ha5 n5 hk5] 50)).alloc (.cells #[.slice ka0 n0 kk0, .int .i64 H.pc, .slice ka1 n1 kk1, .bool H.halted, .bool H.waiting, .bool H.rung, .int .i64 H.done, .slice ka2 n2 kk2, .slice ka3 n3 kk3, .slice ka4 n4 kk4, .slice ka5 n5 kk5] 50) = W
  have B0 : Hid (Below w.heap.size w W) := by show Below _ _ _; rw [← hW]; exact al (al (Below.refl _ _) _) _
  obtain ⟨s, hS⟩ : ∃ s, w.heap.size = s := ⟨_, rfl⟩
  have z1 : s + 1 = (w.alloc (.cells #[.slice ha0 n0 hk0, .int .i64 H.pc, .slice ha1 n1 hk1, .bool H.halted, .bool H.waiting, .bool H.rung, .int .i64 H.done, .slice ha2 n2 hk2, .slice ha3 n3 hk3, .slice ha4 n4 hk4, .slice ha5 n5 hk5] 50)).heap.size := by rw [← hS]; simp
  have Q : Hid (Vb W s #[.slice ha0 n0 hk0, .int .i64 H.pc, .slice ha1 n1 hk1, .bool H.halted, .bool H.waiting, .bool H.rung, .int .i64 H.done, .slice ha2 n2 hk2, .slice ha3 n3 hk3, .slice ha4 n4 hk4, .slice ha5 n5 hk5] 50) := by show Vb _ _ _ _; rw [← hW, ← hS]; exact (Vb.new _ _ _).push _
  have R : Hid (Vb W (s + 1) #[.slice ka0 n0 kk0, .int .i64 H.pc, .slice ka1 n1 kk1, .bool H.halted, .bool H.waiting, .bool H.rung, .int .i64 H.done, .slice ka2 n2 kk2, .slice ka3 n3 kk3, .slice ka4 n4 kk4, .slice ka5 n5 kk5] 50) := by show Vb _ _ _ _; rw [← hW, z1]; exact Vb.new _ _ _
  clear z1
  have q0 := Q.out.cell 0 rfl
  have q1 := Q.out.cell 1 rfl
  have q2 := Q.out.cell 2 rfl
  have q3 := Q.out.cell 3 rfl
  have q4 := Q.out.cell 4 rfl
  have q5 := Q.out.cell 5 rfl
  have q6 := Q.out.cell 6 rfl
  have q7 := Q.out.cell 7 rfl
  have q8 := Q.out.cell 8 rfl
  have p0 := R.out.cell 0 rfl
  have p1 := R.out.cell 1 rfl
  have p2 := R.out.cell 2 rfl
  have p3 := R.out.cell 3 rfl
  have p4 := R.out.cell 4 rfl
  have p5 := R.out.cell 5 rfl
  have p6 := R.out.cell 6 rfl
  have p7 := R.out.cell 7 rfl
  have p8 := R.out.cell 8 rfl
  go_enter Tryz.func12, Tryz.ntmps12
  go_wp2_with fail
  clear hW hS q0 q1 q2 q3 q4 q5 q6 q7 q8 p0 p1 p2 p3 p4 p5 p6 p7 p8
  refine (eq_hart _ _ _ _ _ _ _ _ H _ _ _ (HS.out.h.keep B0.out) (KS.out.h.keep B0.out)).mono ?_
  rintro e w1 ⟨rfl, b1⟩
  have B1 : Hid (Below w.heap.size w w1) := on B0.out b1
  have Q1 := Q.out.keep b1
  have R1 := R.out.keep b1
  have q9 := Q1.cell 9 rfl
  have p9 := R1.cell 9 rfl
  have QR : Hid (_ ∧ _) := And.intro Q1 R1
  clear b1 Q1 R1 Q R
  go_wp2_with fail
  clear q9 p9
  refine (eq_pages _ _ ps _ _ _ (HS.out.pl.keep B1.out) (KS.out.pl.keep B1.out)).mono ?_
  rintro e w2 ⟨rfl, b2⟩
  have B2 : Hid (Below w.heap.size w w2) := on B1.out b2
  have q10 := (QR.out.1.keep b2).cell 10 rfl
  have p10 := (QR.out.2.keep b2).cell 10 rfl
  clear b2 QR
  go_wp2_with fail
  clear q10 p10
  refine (eq_nums _ _ zs _ _ _ (HS.out.mm.keep B2.out) (KS.out.mm.keep B2.out)).mono ?_
  rintro e w3 ⟨rfl, b3⟩
  have B3 : Hid (Below w.heap.size w w3) := on B2.out b3
  clear b3
  go_wp2_with fail
  go_ret
  exact ⟨rfl, B3.out⟩
def totS (H : Ht) (ps : List (Int × Int)) (zs : List Int) : Nat := totH H + 2 * ps.length + zs.length
def OwnS (r c i o l m : Value) (k : Nat) : Prop := Own4 r c i o k ∨ l.ownBlock = some k ∨ m.ownBlock = some k
/-- A list of pages lies in no block of numbers. -/
theorem prs_ne_nums {w : World} {b b' : Nat} {v u : Value} {rs : List (Int × Int)} {zs : List Int} (h : Prs 125 w b v rs) (k : Nums w b' u zs) : ∀ x, v.ownBlock = some x → u.ownBlock ≠ some x := by
  intro x e f
  obtain ⟨h1, h2 | ⟨g, cap, cur, hv, hg, hr, rest⟩⟩ := h
  · rw [h2.1] at e; cases e
  · obtain ⟨k1, k2 | ⟨g', cap', cur', kv, kg, kr, krest⟩⟩ := k
    · rw [k2.1] at f; cases f
    · subst hv kv
      have e1 : g = x := by simpa [Value.ownBlock] using e
      have e2 : g' = x := by simpa [Value.ownBlock] using f
      subst e1 e2
      rw [hr] at kr
      simp at kr
set_option maxRecDepth 20000 in
set_option maxHeartbeats 8000000 in
theorem mark_solo (r c i o l m : Value) (H : Ht) (ps : List (Int × Int)) (zs : List Int) (k : Int) (b : Nat) (w : World) (h : Sm w b r c i o l m H ps zs) (hk : 0 ≤ k) (hz : k + totS H ps zs ≤ 4611686018427387904) :
    Calls Tryz.prog 14 #[.agg #[r, .int .i64 H.pc, c, .bool H.halted, .bool H.waiting, .bool H.rung, .int .i64 H.done, i, o, l, m], .int .i64 k] w fun e w' => e = .returned (.int .i64 (k + totS H ps zs)) ∧ Sm w' b r c i o l m (mkH k H) (pmarks (k + totH H) ps.length) (marks (k + totH H + (2 * ps.length : Nat)) zs.length) ∧ Mq (OwnS r c i o l m) w w' := by
  have HS : Hid (Sm w b r c i o l m H ps zs) := h
  have HK : Hid (0 ≤ k ∧ k + totS H ps zs ≤ 4611686018427387904) := ⟨hk, hz⟩
  have TS : Hid (k + (totS H ps zs : Nat) = k + totH H + (2 * ps.length : Nat) + zs.length) := by show _ = _; unfold totS; omega
  have TQ : Hid (k + totH H ≤ 4611686018427387904 ∧ 0 ≤ k + totH H ∧ k + totH H + (2 * ps.length : Nat) ≤ 4611686018427387904 ∧ 0 ≤ k + totH H + (2 * ps.length : Nat) ∧ k + totH H + (2 * ps.length : Nat) + zs.length ≤ 4611686018427387904) := by have := TS.out; exact ⟨by omega, by omega, by omega, by omega, by omega⟩
  obtain ⟨a0, k0, e0, _⟩ := h.h.r.shape
  obtain ⟨a1, k1, e1, _⟩ := h.h.c.shape
  obtain ⟨a2, k2, e2, _⟩ := h.h.i.shape
  obtain ⟨a3, k3, e3, _⟩ := h.h.o.shape
  obtain ⟨a4, k4, e4, _⟩ := h.pl.shape
  obtain ⟨a5, k5, e5, _⟩ := h.mm.shape
  clear h hk hz
  subst e0 e1 e2 e3 e4 e5
  generalize hn0 : H.regs.length = n0 at *
  generalize hn1 : H.csr.length = n1 at *
  generalize hn2 : H.inn.length = n2 at *
  generalize hn3 : H.out.length = n3 at *
  obtain ⟨n4, hn4⟩ : ∃ n, ps.length = n := ⟨_, rfl⟩
  obtain ⟨n5, hn5⟩ : ∃ n, zs.length = n := ⟨_, rfl⟩
  have HN : Hid (ps.length = n4 ∧ zs.length = n5) := ⟨hn4, hn5⟩
  rw [hn4, hn5] at HS TS TQ ⊢
  clear hn0 hn1 hn2 hn3 hn4 hn5
  obtain ⟨t1, ht1⟩ : ∃ t, k + (totH H : Nat) = t := ⟨_, rfl⟩
  rw [ht1] at TS TQ ⊢
  have T1 : Hid (k + (totH H : Nat) = t1) := ht1
  clear ht1
  generalize hW : w.alloc (.cells #[.slice a0 n0 k0, .int .i64 H.pc, .slice a1 n1 k1, .bool H.halted, .bool H.waiting, .bool H.rung, .int .i64 H.done, .slice a2 n2 k2, .slice a3 n3 k3, .slice a4 n4 k4, .slice a5 n5 k5] 50) = W
  have B0 : Hid (Below w.heap.size w W) := by show Below _ _ _; rw [← hW]; exact al (Below.refl _ _) _
  obtain ⟨s, hS⟩ : ∃ s, w.heap.size = s := ⟨_, rfl⟩
  have Q : Hid (Vb W s #[.slice a0 n0 k0, .int .i64 H.pc, .slice a1 n1 k1, .bool H.halted, .bool H.waiting, .bool H.rung, .int .i64 H.done, .slice a2 n2 k2, .slice a3 n3 k3, .slice a4 n4 k4, .slice a5 n5 k5] 50) := by show Vb _ _ _ _; rw [← hW, ← hS]; exact Vb.new _ _ _
  have HSs : Hid (w.heap.size = s) := hS
  have q0 := Q.out.cell 0 rfl
  have q1 := Q.out.cell 1 rfl
  have q2 := Q.out.cell 2 rfl
  have q3 := Q.out.cell 3 rfl
  have q4 := Q.out.cell 4 rfl
  have q5 := Q.out.cell 5 rfl
  have q6 := Q.out.cell 6 rfl
  have q7 := Q.out.cell 7 rfl
  have q8 := Q.out.cell 8 rfl
  go_enter Tryz.func14, Tryz.ntmps14
  go_wp2_with fail
  clear hW hS q0 q1 q2 q3 q4 q5 q6 q7 q8
  have K0 := HS.out.keep B0.out
  refine (mark_hart _ _ _ _ H k b W K0.h K0.a HK.out.1 (by have := TQ.out.1; have := T1.out; omega)).mono ?_
  rw [T1.out]
  rintro e w1 ⟨rfl, m1, g1⟩
  have OQ : ∀ x, Own4 (.slice a0 n0 k0) (.slice a1 n1 k1) (.slice a2 n2 k2) (.slice a3 n3 k3) x → x < s := fun x e => by have := (HS.out.h.own x e).2; have := HSs.out; omega
  have Q1 : Hid (Vb w1 s _ 50) := g1.vb Q.out (fun e => by have := OQ s e; omega)
  have M1 : Hid (Hm w1 b (.slice a0 n0 k0) (.slice a1 n1 k1) (.slice a2 n2 k2) (.slice a3 n3 k3) (mkH k H)) := m1
  have L1 : Hid (Prs 125 w1 b (.slice a4 n4 k4) ps) := K0.pl.low' g1 (fun x e f => by
    rcases f with f | f | f | f
    · exact prs_ne_nums K0.pl K0.h.r x e f
    · exact prs_ne_nums K0.pl K0.h.c x e f
    · exact prs_ne_nums K0.pl K0.h.i x e f
    · exact prs_ne_nums K0.pl K0.h.o x e f)
  have N1 : Hid (Nums w1 b (.slice a5 n5 k5) zs) := g1.nums K0.mm (fun x e f => by
    rcases f with f | f | f | f
    · exact apt_no K0.rm f e
    · exact apt_no K0.cm f e
    · exact apt_no K0.im f e
    · exact apt_no K0.om f e)
  have G1 : Hid (Mq (OwnS (.slice a0 n0 k0) (.slice a1 n1 k1) (.slice a2 n2 k2) (.slice a3 n3 k3) (.slice a4 n4 k4) (.slice a5 n5 k5)) w w1) := (Mq.of (below_grown B0.out none) (fun k e => by cases e)).trans (mq_wid g1 fun x e => .inl e)
  clear m1 g1 OQ K0 Q
  have q9 := Q1.out.cell 9 rfl
  go_wp2_with fail
  clear q9
  have hq := mark_pages (.slice a4 n4 k4) t1 ps b w1 L1.out TQ.out.2.1 (by rw [HN.out.1]; exact TQ.out.2.2.1)
  rw [HN.out.1] at hq
  refine hq.mono ?_
  clear hq
  rintro e w2 ⟨rfl, l2, g2⟩
  have g2' : Mq (OwnS (.slice a0 n0 k0) (.slice a1 n1 k1) (.slice a2 n2 k2) (.slice a3 n3 k3) (.slice a4 n4 k4) (.slice a5 n5 k5)) w1 w2 := Mq.of g2 fun k e => .inr (.inl e.symm)
  have m2 : Mq (fun x => (Value.slice a4 n4 k4).ownBlock = some x) w1 w2 := Mq.of g2 fun k e => e.symm
  have Q2 : Hid (Vb w2 s _ 50) := m2.vb Q1.out (fun e => by have := (HS.out.pl.lt s e).2; have := HSs.out; omega)
  have L2 : Hid (Prs 125 w2 b (.slice a4 n4 k4) (pmarks t1 n4)) := l2
  have M2 : Hid (Hm w2 b (.slice a0 n0 k0) (.slice a1 n1 k1) (.slice a2 n2 k2) (.slice a3 n3 k3) (mkH k H)) := m2.hm M1.out (fun x e f => by
    rcases e with e | e | e | e
    · exact prs_ne_nums L1.out M1.out.r x f e
    · exact prs_ne_nums L1.out M1.out.c x f e
    · exact prs_ne_nums L1.out M1.out.i x f e
    · exact prs_ne_nums L1.out M1.out.o x f e)
  have N2 : Hid (Nums w2 b (.slice a5 n5 k5) zs) := m2.nums N1.out (fun x e f => prs_ne_nums L1.out N1.out x f e)
  have G2 : Hid (Mq (OwnS (.slice a0 n0 k0) (.slice a1 n1 k1) (.slice a2 n2 k2) (.slice a3 n3 k3) (.slice a4 n4 k4) (.slice a5 n5 k5)) w w2) := G1.out.trans g2'
  clear l2 g2 g2' m2 Q1 M1 L1 N1 G1
  have q10 := Q2.out.cell 10 rfl
  go_wp2_with fail
  clear q10
  have hq := mark_nums (.slice a5 n5 k5) (t1 + (2 * n4 : Nat)) zs b w2 N2.out TQ.out.2.2.2.1 (by rw [HN.out.2]; exact TQ.out.2.2.2.2)
  rw [HN.out.2] at hq
  refine hq.mono ?_
  clear hq
  rintro e w3 ⟨rfl, l3, g3⟩
  have m3 : Mq (fun x => (Value.slice a5 n5 k5).ownBlock = some x) w2 w3 := Mq.of g3 fun k e => e.symm
  have M3 : Hid (Hm w3 b (.slice a0 n0 k0) (.slice a1 n1 k1) (.slice a2 n2 k2) (.slice a3 n3 k3) (mkH k H)) := m3.hm M2.out (fun x e f => by
    rcases e with e | e | e | e
    · exact apt_no HS.out.rm e f
    · exact apt_no HS.out.cm e f
    · exact apt_no HS.out.im e f
    · exact apt_no HS.out.om e f)
  have L3 : Hid (Prs 125 w3 b (.slice a4 n4 k4) (pmarks t1 n4)) := L2.out.low' m3 (fun x e f => prs_ne_nums L2.out N2.out x e f)
  have N3 : Hid (Nums w3 b (.slice a5 n5 k5) (marks (t1 + (2 * n4 : Nat)) n5)) := l3
  have G3 : Hid (Mq (OwnS (.slice a0 n0 k0) (.slice a1 n1 k1) (.slice a2 n2 k2) (.slice a3 n3 k3) (.slice a4 n4 k4) (.slice a5 n5 k5)) w w3) := G2.out.trans (Mq.of g3 fun k e => .inr (.inr e.symm))
  clear l3 g3 m3 Q2 M2 L2 N2 G2
  go_wp2_with fail
  go_ret
  exact ⟨by rw [TS.out]; rfl, ⟨M3.out, HS.out.a, L3.out, N3.out, HS.out.rm, HS.out.cm, HS.out.im, HS.out.om⟩, G3.out⟩
end Go.Proofs.YtadkhognlapckaaGreatDoor
namespace Go.Proofs.YtadkhognlapckaaGreatDoor
open Go.RowKit
set_option linter.unusedVariables false

set_option maxRecDepth 20000 in
set_option maxHeartbeats 8000000 in
theorem i_viewOn (xa : Option Addr) (n2 xk : Nat) (ya : Option Addr) (n3 yk : Nat) (H : Ht) (b : Nat) (pg mc : Nat) (ms : List Int) (ao : Option Addr) (lo co : Nat) (ps : List Int) (ag : Option Addr) (lg cg : Nat) (gs : List Int) (w : World) (hi : Rv w (.slice xa n2 xk) H.inn) (ho : Rv w (.slice ya n3 yk) H.out) (hk : Hok H) (mp : Nat) (hpc : ∀ k, k < mp * 8 → w.cell? ⟨pg, k, none⟩ = some (.int .i64 (ms.getD k 0))) (h1 : 1 ≤ mp) (h24 : mp ≤ 24) (hms : ms.length = mp * 8) (hp : IsNs w ao lo co ps) (hpr : ∀ x ∈ ps, 0 ≤ x ∧ x < mp) (hpl : ps.length ≤ 5) (hg : IsNs w ag lg cg gs) (hgr : ∀ x ∈ gs, 0 ≤ x ∧ x < mp) (hgl : gs.length ≤ 5) :
    Calls Tryz.prog 40 #[.agg (mca H (.slice xa n2 xk) (.slice ya n3 yk)), .slice (some ⟨pg, 0, none⟩) mp mc, .slice ao lo co, .slice ag lg cg] w fun e w' => ∃ r' c' i' o' l m, e = .returned (.agg #[r', .int .i64 H.pc, c', .bool H.halted, .bool H.waiting, .bool H.rung, .int .i64 H.done, i', o', l, m]) ∧ Vm w' w.heap.size r' c' i' o' l m H (wordsL ms ps) (wordsL ms gs) ∧ Below w.heap.size w w' := by
  have KO : Hid (Hok H) := hk
  have HI : Hid (Rv w (.slice xa n2 xk) H.inn ∧ Rv w (.slice ya n3 yk) H.out) := ⟨hi, ho⟩
  have HP : Hid (IsNs w ao lo co ps ∧ IsNs w ag lg cg gs) := ⟨hp, hg⟩
  have PC : Hid (∀ k, k < mp * 8 → w.cell? ⟨pg, k, none⟩ = some (.int .i64 (ms.getD k 0))) := hpc
  have WO : Hid (∀ u, Below w.heap.size w u → Calls Tryz.prog 75 #[.slice (some ⟨pg, 0, none⟩) mp mc, .slice ao lo co] u fun e w' => ∃ v, e = .returned v ∧ Nums w' u.heap.size v (wordsL ms ps) ∧ Below u.heap.size u w') := fun u hu => i_among pg mc ms ao lo co ps u mp (fun k hk => cell_keep hu (PC.out k hk)) h1 h24 hms (HP.out.1.stay hu) hpr hpl
  have WG : Hid (∀ u, Below w.heap.size w u → Calls Tryz.prog 75 #[.slice (some ⟨pg, 0, none⟩) mp mc, .slice ag lg cg] u fun e w' => ∃ v, e = .returned v ∧ Nums w' u.heap.size v (wordsL ms gs) ∧ Below u.heap.size u w') := fun u hu => i_among pg mc ms ag lg cg gs u mp (fun k hk => cell_keep hu (PC.out k hk)) h1 h24 hms (HP.out.2.stay hu) hgr hgl
  clear hi ho hk hpc h1 h24 hms hp hpr hpl hg hgr hgl
  generalize hW : (w.alloc (.cells (mca H (.slice xa n2 xk) (.slice ya n3 yk)) 90)).alloc (.cells #[.slice none 0 0, .int .i64 0, .slice none 0 0, .bool false, .bool false, .bool false, .int .i64 0, .slice none 0 0, .slice none 0 0, .slice none 0 0, .slice none 0 0] 38) = W3
  have B3 : Hid (Below w.heap.size w W3) := by show Below _ _ _; rw [← hW]; exact al (al (Below.refl _ _) _) _
  obtain ⟨s, hS⟩ : ∃ s, w.heap.size = s := ⟨_, rfl⟩
  have HSs : Hid (w.heap.size = s) := hS
  have z1 : s + 1 = (w.alloc (.cells (mca H (.slice xa n2 xk) (.slice ya n3 yk)) 90)).heap.size := by rw [← hS]; simp
  have V3 : Hid (Vb W3 s (mca H (.slice xa n2 xk) (.slice ya n3 yk)) 90) := by show Vb _ _ _ _; rw [← hW, ← hS]; exact (Vb.new _ _ _).push _
  have R3 : Hid (Vb W3 (s + 1) #[.slice none 0 0, .int .i64 0, .slice none 0 0, .bool false, .bool false, .bool false, .int .i64 0, .slice none 0 0, .slice none 0 0, .slice none 0 0, .slice none 0 0] 38) := by show Vb _ _ _ _; rw [← hW, z1]; exact Vb.new _ _ _
  have hsz := mca_size H (.slice xa n2 xk) (.slice ya n3 yk)
  clear z1
  go_enter Tryz.func40, Tryz.ntmps40
  go_wp2_with fail
  clear hW hS hsz
  refine (i_hartr s _ _ H W3 V3.out (HI.out.1.stay B3.out) (HI.out.2.stay B3.out) KO.out.r16 KO.out.c11 (by have := KO.out.i40; omega) (by have := KO.out.o40; omega)).mono ?_
  rintro e w4 ⟨r4, c4, i4, o4, rfl, m4, ha4, b4⟩
  obtain ⟨xa0, xk0, x0e, _⟩ := m4.r.shape
  obtain ⟨xa1, xk1, x1e, _⟩ := m4.c.shape
  obtain ⟨xa2, xk2, x2e, _⟩ := m4.i.shape
  obtain ⟨xa3, xk3, x3e, _⟩ := m4.o.shape
  subst x0e x1e x2e x3e
  obtain ⟨x0, hx0⟩ : ∃ n, H.regs.length = n := ⟨_, rfl⟩
  obtain ⟨x1, hx1⟩ : ∃ n, H.csr.length = n := ⟨_, rfl⟩
  obtain ⟨x2, hx2⟩ : ∃ n, H.inn.length = n := ⟨_, rfl⟩
  obtain ⟨x3, hx3⟩ : ∃ n, H.out.length = n := ⟨_, rfl⟩
  rw [hx0, hx1, hx2, hx3] at m4 ha4 ⊢
  have M4 : Hid (Hm w4 W3.heap.size (.slice xa0 x0 xk0) (.slice xa1 x1 xk1) (.slice xa2 x2 xk2) (.slice xa3 x3 xk3) H) := m4
  have A4 : Hid (Ha (.slice xa0 x0 xk0) (.slice xa1 x1 xk1) (.slice xa2 x2 xk2) (.slice xa3 x3 xk3)) := ha4
  have B4 : Hid (Below w.heap.size w w4) := on B3.out b4
  have R4 : Hid (Vb w4 (s + 1) #[.slice none 0 0, .int .i64 0, .slice none 0 0, .bool false, .bool false, .bool false, .int .i64 0, .slice none 0 0, .slice none 0 0, .slice none 0 0, .slice none 0 0] 38) := R3.out.keep b4
  have L4 : Hid (s + 1 < W3.heap.size) := R3.out.lt
  clear m4 ha4 b4 hx0 hx1 hx2 hx3
  go_wp2_with fail
  refine (WO.out w4 B4.out).mono ?_
  rintro e w5 ⟨v5, rfl, n5, b5⟩
  obtain ⟨xa4, xk4, x4e, _⟩ := n5.shape
  obtain ⟨x4, hx4⟩ : ∃ n, (wordsL ms ps).length = n := ⟨_, rfl⟩
  rw [hx4] at x4e
  subst x4e
  have M5 : Hid (Hm w5 W3.heap.size (.slice xa0 x0 xk0) (.slice xa1 x1 xk1) (.slice xa2 x2 xk2) (.slice xa3 x3 xk3) H) := M4.out.keep b5
  have N5 : Hid (Nums w5 w4.heap.size (.slice xa4 x4 xk4) (wordsL ms ps)) := n5
  have AL : Hid (Apt (.slice xa0 x0 xk0) (.slice xa4 x4 xk4) ∧ Apt (.slice xa1 x1 xk1) (.slice xa4 x4 xk4) ∧ Apt (.slice xa2 x2 xk2) (.slice xa4 x4 xk4) ∧ Apt (.slice xa3 x3 xk3) (.slice xa4 x4 xk4)) := ⟨M4.out.r.apt n5 (Nat.le_refl _), M4.out.c.apt n5 (Nat.le_refl _), M4.out.i.apt n5 (Nat.le_refl _), M4.out.o.apt n5 (Nat.le_refl _)⟩
  have B5 : Hid (Below w.heap.size w w5) := on B4.out b5
  have R5 : Hid (Vb w5 (s + 1) #[.slice none 0 0, .int .i64 0, .slice none 0 0, .bool false, .bool false, .bool false, .int .i64 0, .slice none 0 0, .slice none 0 0, .slice none 0 0, .slice none 0 0] 38) := R4.out.keep b5
  clear n5 b5 hx4
  go_wp2_with fail
  refine (WG.out w5 B5.out).mono ?_
  rintro e w6 ⟨v6, rfl, n6, b6⟩
  obtain ⟨xa5, xk5, x5e, _⟩ := n6.shape
  obtain ⟨x5, hx5⟩ : ∃ n, (wordsL ms gs).length = n := ⟨_, rfl⟩
  rw [hx5] at x5e
  subst x5e
  have M6 : Hid (Hm w6 W3.heap.size (.slice xa0 x0 xk0) (.slice xa1 x1 xk1) (.slice xa2 x2 xk2) (.slice xa3 x3 xk3) H) := M5.out.keep b6
  have N6 : Hid (Nums w6 w4.heap.size (.slice xa4 x4 xk4) (wordsL ms ps) ∧ Nums w6 w5.heap.size (.slice xa5 x5 xk5) (wordsL ms gs)) := ⟨N5.out.keep b6, n6⟩
  have AM : Hid ((Apt (.slice xa0 x0 xk0) (.slice xa5 x5 xk5) ∧ Apt (.slice xa1 x1 xk1) (.slice xa5 x5 xk5) ∧ Apt (.slice xa2 x2 xk2) (.slice xa5 x5 xk5) ∧ Apt (.slice xa3 x3 xk3) (.slice xa5 x5 xk5)) ∧ Apt (.slice xa4 x4 xk4) (.slice xa5 x5 xk5)) := ⟨⟨M5.out.r.apt n6 (Nat.le_refl _), M5.out.c.apt n6 (Nat.le_refl _), M5.out.i.apt n6 (Nat.le_refl _), M5.out.o.apt n6 (Nat.le_refl _)⟩, N5.out.apt n6 (Nat.le_refl _)⟩
  have B6 : Hid (Below w.heap.size w w6) := on B5.out b6
  have R6 : Hid (Vb w6 (s + 1) #[.slice none 0 0, .int .i64 0, .slice none 0 0, .bool false, .bool false, .bool false, .int .i64 0, .slice none 0 0, .slice none 0 0, .slice none 0 0, .slice none 0 0] 38) := R5.out.keep b6
  have L6 : Hid (s + 1 < w4.heap.size ∧ s + 1 < w5.heap.size) := ⟨R4.out.lt, R5.out.lt⟩
  clear n6 b6 hx5
  have p0 := R6.out.cell 0 rfl
  have f0 := R6.out.free 0
  have p1 := R6.out.cell 1 rfl
  have f1 := R6.out.free 1
  have p2 := R6.out.cell 2 rfl
  have f2 := R6.out.free 2
  have p3 := R6.out.cell 3 rfl
  have f3 := R6.out.free 3
  have p4 := R6.out.cell 4 rfl
  have f4 := R6.out.free 4
  have p5 := R6.out.cell 5 rfl
  have f5 := R6.out.free 5
  have p6 := R6.out.cell 6 rfl
  have f6 := R6.out.free 6
  have p7 := R6.out.cell 7 rfl
  have f7 := R6.out.free 7
  have p8 := R6.out.cell 8 rfl
  have f8 := R6.out.free 8
  have p9 := R6.out.cell 9 rfl
  have f9 := R6.out.free 9
  have p10 := R6.out.cell 10 rfl
  have f10 := R6.out.free 10
  have NR : Hid (_ ∧ _) := elevenX R6.out (.slice xa0 x0 xk0) (.int .i64 H.pc) (.slice xa1 x1 xk1) (.bool H.halted) (.bool H.waiting) (.bool H.rung) (.int .i64 H.done) (.slice xa2 x2 xk2) (.slice xa3 x3 xk3) (.slice xa4 x4 xk4) (.slice xa5 x5 xk5)
  go_wp2_with fail
  clear p0 f0 p1 f1 p2 f2 p3 f3 p4 f4 p5 f5 p6 f6 p7 f7 p8 f8 p9 f9 p10 f10
  generalize (((((((((((w6.setCell ⟨s + 1, 0, none⟩ (.slice xa0 x0 xk0)).setCell ⟨s + 1, 1, none⟩ (.int .i64 H.pc)).setCell ⟨s + 1, 2, none⟩ (.slice xa1 x1 xk1)).setCell ⟨s + 1, 3, none⟩ (.bool H.halted)).setCell ⟨s + 1, 4, none⟩ (.bool H.waiting)).setCell ⟨s + 1, 5, none⟩ (.bool H.rung)).setCell ⟨s + 1, 6, none⟩ (.int .i64 H.done)).setCell ⟨s + 1, 7, none⟩ (.slice xa2 x2 xk2)).setCell ⟨s + 1, 8, none⟩ (.slice xa3 x3 xk3)).setCell ⟨s + 1, 9, none⟩ (.slice xa4 x4 xk4)).setCell ⟨s + 1, 10, none⟩ (.slice xa5 x5 xk5)) = V at *
  have O6 : Ho (s + 2) w6 V := NR.out.2.ho fun k e => by omega
  have B7 : Hid (Below w.heap.size w V) := Mq.under B6.out NR.out.2 fun k e => by have := HSs.out; omega
  have SS : Hid (Vm V w.heap.size (.slice xa0 x0 xk0) (.slice xa1 x1 xk1) (.slice xa2 x2 xk2) (.slice xa3 x3 xk3) (.slice xa4 x4 xk4) (.slice xa5 x5 xk5) H (wordsL ms ps) (wordsL ms gs)) := ⟨((M6.out.mono (by have := L4.out; omega)).ho O6).mono (by have := HSs.out; omega), A4.out, ((N6.out.1.mono (by have := L6.out; omega)).ho O6).mono (by have := HSs.out; omega), ((N6.out.2.mono (by have := L6.out; omega)).ho O6).mono (by have := HSs.out; omega), AL.out.1, AL.out.2.1, AL.out.2.2.1, AL.out.2.2.2, AM.out.2, AM.out.1.1, AM.out.1.2.1, AM.out.1.2.2.1, AM.out.1.2.2.2⟩
  have x0' := NR.out.1.cell 0 rfl
  have x1' := NR.out.1.cell 1 rfl
  have x2' := NR.out.1.cell 2 rfl
  have x3' := NR.out.1.cell 3 rfl
  have x4' := NR.out.1.cell 4 rfl
  have x5' := NR.out.1.cell 5 rfl
  have x6' := NR.out.1.cell 6 rfl
  have x7' := NR.out.1.cell 7 rfl
  have x8' := NR.out.1.cell 8 rfl
  have x9' := NR.out.1.cell 9 rfl
  have x10' := NR.out.1.cell 10 rfl
  exact bodyPost_ret (v := .agg #[.slice xa0 x0 xk0, .int .i64 H.pc, .slice xa1 x1 xk1, .bool H.halted, .bool H.waiting, .bool H.rung, .int .i64 H.done, .slice xa2 x2 xk2, .slice xa3 x3 xk3, .slice xa4 x4 xk4, .slice xa5 x5 xk5]) (by simp [results, Tryz.results40, go_sem, x0', x1', x2', x3', x4', x5', x6', x7', x8', x9', x10']) rfl ⟨_, _, _, _, _, _, rfl, SS.out, B7.out⟩
end Go.Proofs.YtadkhognlapckaaGreatDoor
