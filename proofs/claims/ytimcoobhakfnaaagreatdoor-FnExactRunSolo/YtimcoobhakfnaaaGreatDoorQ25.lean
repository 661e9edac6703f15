/- Texts of this seat, joined. -/
import Derived.Deep.CutRange
import Derived.Laws.AppendOwn
import Derived.Laws.AppendOwnNone
import Derived.Lib.BufferMore
import Derived.Deep.Cut
import Derived.Deep.RegionHeld3
import Derived.Test.YtimcoobhakfnaaaGreatDoorQ05
import Derived.Test.YtimcoobhakfnaaaGreatDoorQ12
import Derived.Test.YtimcoobhakfnaaaGreatDoorQ14
import Derived.Test.YtimcoobhakfnaaaGreatDoorQ15
import Derived.Test.YtimcoobhakfnaaaGreatDoorQ17
import Derived.Test.YtimcoobhakfnaaaGreatDoorQ18
import Derived.Test.YtimcoobhakfnaaaGreatDoorQ19
import Derived.Test.YtimcoobhakfnaaaGreatDoorQ21
import Derived.Test.YtimcoobhakfnaaaGreatDoorQ24
namespace Go.Proofs.YtimcoobhakfnaaaGreatDoor
open Go.RowKit
set_option linter.unusedVariables false

theorem nineIn {v : World} {q : Nat} {t : TypeId} {z0 z1 z2 z3 z4 z5 z6 z7 z8 z9 z10 : Value} (h : Vb v q #[z0, z1, z2, z3, z4, z5, z6, z7, z8, z9, z10] t) (u0 u1 u2 u3 u4 u5 u6 u7 u8 : Value) :
    Vb (((((((((v.setCell ⟨q, 0, none⟩ u0).setCell ⟨q, 1, none⟩ u1).setCell ⟨q, 2, none⟩ u2).setCell ⟨q, 3, none⟩ u3).setCell ⟨q, 4, none⟩ u4).setCell ⟨q, 5, none⟩ u5).setCell ⟨q, 6, none⟩ u6).setCell ⟨q, 7, none⟩ u7).setCell ⟨q, 8, none⟩ u8) q #[u0, u1, u2, u3, u4, u5, u6, u7, u8, z9, z10] t ∧ Mq (fun k => k = q) v (((((((((v.setCell ⟨q, 0, none⟩ u0).setCell ⟨q, 1, none⟩ u1).setCell ⟨q, 2, none⟩ u2).setCell ⟨q, 3, none⟩ u3).setCell ⟨q, 4, none⟩ u4).setCell ⟨q, 5, none⟩ u5).setCell ⟨q, 6, none⟩ u6).setCell ⟨q, 7, none⟩ u7).setCell ⟨q, 8, none⟩ u8) := by
  have h0 : Vb (v.setCell ⟨q, 0, none⟩ u0) q #[u0, z1, z2, z3, z4, z5, z6, z7, z8, z9, z10] t := h.set 0 u0
  have h1 : Vb ((v.setCell ⟨q, 0, none⟩ u0).setCell ⟨q, 1, none⟩ u1) q #[u0, u1, z2, z3, z4, z5, z6, z7, z8, z9, z10] t := h0.set 1 u1
  have h2 : Vb (((v.setCell ⟨q, 0, none⟩ u0).setCell ⟨q, 1, none⟩ u1).setCell ⟨q, 2, none⟩ u2) q #[u0, u1, u2, z3, z4, z5, z6, z7, z8, z9, z10] t := h1.set 2 u2
  have h3 : Vb ((((v.setCell ⟨q, 0, none⟩ u0).setCell ⟨q, 1, none⟩ u1).setCell ⟨q, 2, none⟩ u2).setCell ⟨q, 3, none⟩ u3) q #[u0, u1, u2, u3, z4, z5, z6, z7, z8, z9, z10] t := h2.set 3 u3
  have h4 : Vb (((((v.setCell ⟨q, 0, none⟩ u0).setCell ⟨q, 1, none⟩ u1).setCell ⟨q, 2, none⟩ u2).setCell ⟨q, 3, none⟩ u3).setCell ⟨q, 4, none⟩ u4) q #[u0, u1, u2, u3, u4, z5, z6, z7, z8, z9, z10] t := h3.set 4 u4
  have h5 : Vb ((((((v.setCell ⟨q, 0, none⟩ u0).setCell ⟨q, 1, none⟩ u1).setCell ⟨q, 2, none⟩ u2).setCell ⟨q, 3, none⟩ u3).setCell ⟨q, 4, none⟩ u4).setCell ⟨q, 5, none⟩ u5) q #[u0, u1, u2, u3, u4, u5, z6, z7, z8, z9, z10] t := h4.set 5 u5
  have h6 : Vb (((((((v.setCell ⟨q, 0, none⟩ u0).setCell ⟨q, 1, none⟩ u1).setCell ⟨q, 2, none⟩ u2).setCell ⟨q, 3, none⟩ u3).setCell ⟨q, 4, none⟩ u4).setCell ⟨q, 5, none⟩ u5).setCell ⟨q, 6, none⟩ u6) q #[u0, u1, u2, u3, u4, u5, u6, z7, z8, z9, z10] t := h5.set 6 u6
  have h7 : Vb ((((((((v.setCell ⟨q, 0, none⟩ u0).setCell ⟨q, 1, none⟩ u1).setCell ⟨q, 2, none⟩ u2).setCell ⟨q, 3, none⟩ u3).setCell ⟨q, 4, none⟩ u4).setCell ⟨q, 5, none⟩ u5).setCell ⟨q, 6, none⟩ u6).setCell ⟨q, 7, none⟩ u7) q #[u0, u1, u2, u3, u4, u5, u6, u7, z8, z9, z10] t := h6.set 7 u7
  have h8 : Vb (((((((((v.setCell ⟨q, 0, none⟩ u0).setCell ⟨q, 1, none⟩ u1).setCell ⟨q, 2, none⟩ u2).setCell ⟨q, 3, none⟩ u3).setCell ⟨q, 4, none⟩ u4).setCell ⟨q, 5, none⟩ u5).setCell ⟨q, 6, none⟩ u6).setCell ⟨q, 7, none⟩ u7).setCell ⟨q, 8, none⟩ u8) q #[u0, u1, u2, u3, u4, u5, u6, u7, u8, z9, z10] t := h7.set 8 u8
  exact ⟨h8, ((((((((((Mq.refl (fun k => k = q) v).set ⟨q, 0, none⟩ u0 rfl).set ⟨q, 1, none⟩ u1 rfl).set ⟨q, 2, none⟩ u2 rfl).set ⟨q, 3, none⟩ u3 rfl).set ⟨q, 4, none⟩ u4 rfl).set ⟨q, 5, none⟩ u5 rfl).set ⟨q, 6, none⟩ u6 rfl).set ⟨q, 7, none⟩ u7 rfl).set ⟨q, 8, none⟩ u8 rfl)⟩
theorem elevenX {v : World} {q : Nat} {t : TypeId} {z0 z1 z2 z3 z4 z5 z6 z7 z8 z9 z10 : Value} (h : Vb v q #[z0, z1, z2, z3, z4, z5, z6, z7, z8, z9, z10] t) (u0 u1 u2 u3 u4 u5 u6 u7 u8 u9 u10 : Value) :
    Vb (((((((((((v.setCell ⟨q, 0, none⟩ u0).setCell ⟨q, 1, none⟩ u1).setCell ⟨q, 2, none⟩ u2).setCell ⟨q, 3, none⟩ u3).setCell ⟨q, 4, none⟩ u4).setCell ⟨q, 5, none⟩ u5).setCell ⟨q, 6, none⟩ u6).setCell ⟨q, 7, none⟩ u7).setCell ⟨q, 8, none⟩ u8).setCell ⟨q, 9, none⟩ u9).setCell ⟨q, 10, none⟩ u10) q #[u0, u1, u2, u3, u4, u5, u6, u7, u8, u9, u10] t ∧ Mq (fun k => k = q) v (((((((((((v.setCell ⟨q, 0, none⟩ u0).setCell ⟨q, 1, none⟩ u1).setCell ⟨q, 2, none⟩ u2).setCell ⟨q, 3, none⟩ u3).setCell ⟨q, 4, none⟩ u4).setCell ⟨q, 5, none⟩ u5).setCell ⟨q, 6, none⟩ u6).setCell ⟨q, 7, none⟩ u7).setCell ⟨q, 8, none⟩ u8).setCell ⟨q, 9, none⟩ u9).setCell ⟨q, 10, none⟩ u10) := by
  have h0 : Vb (v.setCell ⟨q, 0, none⟩ u0) q #[u0, z1, z2, z3, z4, z5, z6, z7, z8, z9, z10] t := h.set 0 u0
  have h1 : Vb ((v.setCell ⟨q, 0, none⟩ u0).setCell ⟨q, 1, none⟩ u1) q #[u0, u1, z2, z3, z4, z5, z6, z7, z8, z9, z10] t := h0.set 1 u1
  have h2 : Vb (((v.setCell ⟨q, 0, none⟩ u0).setCell ⟨q, 1, none⟩ u1).setCell ⟨q, 2, none⟩ u2) q #[u0, u1, u2, z3, z4, z5, z6, z7, z8, z9, z10] t := h1.set 2 u2
  have h3 : Vb ((((v.setCell ⟨q, 0, none⟩ u0).setCell ⟨q, 1, none⟩ u1).setCell ⟨q, 2, none⟩ u2).setCell ⟨q, 3, none⟩ u3) q #[u0, u1, u2, u3, z4, z5, z6, z7, z8, z9, z10] t := h2.set 3 u3
  have h4 : Vb (((((v.setCell ⟨q, 0, none⟩ u0).setCell ⟨q, 1, none⟩ u1).setCell ⟨q, 2, none⟩ u2).setCell ⟨q, 3, none⟩ u3).setCell ⟨q, 4, none⟩ u4) q #[u0, u1, u2, u3, u4, z5, z6, z7, z8, z9, z10] t := h3.set 4 u4
  have h5 : Vb ((((((v.setCell ⟨q, 0, none⟩ u0).setCell ⟨q, 1, none⟩ u1).setCell ⟨q, 2, none⟩ u2).setCell ⟨q, 3, none⟩ u3).setCell ⟨q, 4, none⟩ u4).setCell ⟨q, 5, none⟩ u5) q #[u0, u1, u2, u3, u4, u5, z6, z7, z8, z9, z10] t := h4.set 5 u5
  have h6 : Vb (((((((v.setCell ⟨q, 0, none⟩ u0).setCell ⟨q, 1, none⟩ u1).setCell ⟨q, 2, none⟩ u2).setCell ⟨q, 3, none⟩ u3).setCell ⟨q, 4, none⟩ u4).setCell ⟨q, 5, none⟩ u5).setCell ⟨q, 6, none⟩ u6) q #[u0, u1, u2, u3, u4, u5, u6, z7, z8, z9, z10] t := h5.set 6 u6
  have h7 : Vb ((((((((v.setCell ⟨q, 0, none⟩ u0).setCell ⟨q, 1, none⟩ u1).setCell ⟨q, 2, none⟩ u2).setCell ⟨q, 3, none⟩ u3).setCell ⟨q, 4, none⟩ u4).setCell ⟨q, 5, none⟩ u5).setCell ⟨q, 6, none⟩ u6).setCell ⟨q, 7, none⟩ u7) q #[u0, u1, u2, u3, u4, u5, u6, u7, z8, z9, z10] t := h6.set 7 u7
  have h8 : Vb (((((((((v.setCell ⟨q, 0, none⟩ u0).setCell ⟨q, 1, none⟩ u1).setCell ⟨q, 2, none⟩ u2).setCell ⟨q, 3, none⟩ u3).setCell ⟨q, 4, none⟩ u4).setCell ⟨q, 5, none⟩ u5).setCell ⟨q, 6, none⟩ u6).setCell ⟨q, 7, none⟩ u7).setCell ⟨q, 8, none⟩ u8) q #[u0, u1, u2, u3, u4, u5, u6, u7, u8, z9, z10] t := h7.set 8 u8
  have h9 : Vb ((((((((((v.setCell ⟨q, 0, none⟩ u0).setCell ⟨q, 1, none⟩ u1).setCell ⟨q, 2, none⟩ u2).setCell ⟨q, 3, none⟩ u3).setCell ⟨q, 4, none⟩ u4).setCell ⟨q, 5, none⟩ u5).setCell ⟨q, 6, none⟩ u6).setCell ⟨q, 7, none⟩ u7).setCell ⟨q, 8, none⟩ u8).setCell ⟨q, 9, none⟩ u9) q #[u0, u1, u2, u3, u4, u5, u6, u7, u8, u9, z10] t := h8.set 9 u9
  have h10 : Vb (((((((((((v.setCell ⟨q, 0, none⟩ u0).setCell ⟨q, 1, none⟩ u1).setCell ⟨q, 2, none⟩ u2).setCell ⟨q, 3, none⟩ u3).setCell ⟨q, 4, none⟩ u4).setCell ⟨q, 5, none⟩ u5).setCell ⟨q, 6, none⟩ u6).setCell ⟨q, 7, none⟩ u7).setCell ⟨q, 8, none⟩ u8).setCell ⟨q, 9, none⟩ u9).setCell ⟨q, 10, none⟩ u10) q #[u0, u1, u2, u3, u4, u5, u6, u7, u8, u9, u10] t := h9.set 10 u10
  exact ⟨h10, ((((((((((((Mq.refl (fun k => k = q) v).set ⟨q, 0, none⟩ u0 rfl).set ⟨q, 1, none⟩ u1 rfl).set ⟨q, 2, none⟩ u2 rfl).set ⟨q, 3, none⟩ u3 rfl).set ⟨q, 4, none⟩ u4 rfl).set ⟨q, 5, none⟩ u5 rfl).set ⟨q, 6, none⟩ u6 rfl).set ⟨q, 7, none⟩ u7 rfl).set ⟨q, 8, none⟩ u8 rfl).set ⟨q, 9, none⟩ u9 rfl).set ⟨q, 10, none⟩ u10 rfl)⟩
theorem Prs.low' {S : Nat → Prop} {e : TypeId} {w w' : World} {b : Nat} {v : Value} {rs : List (Int × Int)} (h : Prs e w b v rs) (m : Mq S w w') (hb : ∀ k, v.ownBlock = some k → ¬ S k) : Prs e w' b v rs := by
  obtain ⟨h1, h2 | ⟨g, cap, cur, hv, hg, hr, rest⟩⟩ := h
  · exact ⟨h1, .inl h2⟩
  · refine ⟨h1, .inr ⟨g, cap, cur, hv, hg, ?_, rest⟩⟩
    rw [m.block g ((Array.getElem?_eq_some_iff.1 hr).1) (hb g (by rw [hv]; rfl))]
    exact hr
/-- A lonely machine whose lists lie in blocks of their own, apart. -/
structure Sm (w : World) (base : Nat) (r c i o l m : Value) (H : Ht) (ps : List (Int × Int)) (zs : List Int) : Prop where
  h : Hm w base r c i o H
  a : Ha r c i o
  pl : Prs 61 w base l ps
  mm : Nums w base m zs
  rm : Apt r m
  cm : Apt c m
  im : Apt i m
  om : Apt o m
theorem Sm.keep {w w' : World} {base : Nat} {r c i o l m : Value} {H : Ht} {ps : List (Int × Int)} {zs : List Int} (s : Sm w base r c i o l m H ps zs) (b : Below w.heap.size w w') : Sm w' base r c i o l m H ps zs :=
  ⟨s.h.keep b, s.a, s.pl.keep b, s.mm.keep b, s.rm, s.cm, s.im, s.om⟩
theorem Sm.mono {w : World} {base base' : Nat} {r c i o l m : Value} {H : Ht} {ps : List (Int × Int)} {zs : List Int} (s : Sm w base r c i o l m H ps zs) (hb : base' ≤ base) : Sm w base' r c i o l m H ps zs :=
  ⟨s.h.mono hb, s.a, s.pl.mono hb, s.mm.mono hb, s.rm, s.cm, s.im, s.om⟩
theorem sz_prs (a : Option Addr) (len cap : Nat) (k : Int) (w : World) (h : len ≤ 9223372036854775807) (h1 : 0 ≤ k) (h2 : k ≤ 1048576) :
    Calls Tryz.prog 14 #[.slice a len cap, .int .i64 k] w fun e w' => e = .returned (.int .i64 (if k - len < 0 then -1 else k - len)) ∧ w' = w := by
  have h3 : (len : Int) ≤ 9223372036854775807 := by omega
  by_cases hk : k - len < 0
  · rw [if_pos hk]
    go_enter Tryz.func14, Tryz.ntmps14
    go_wp2_with fail
    go_ret
    exact ⟨rfl, rfl⟩
  · rw [if_neg hk]
    go_enter Tryz.func14, Tryz.ntmps14
    go_wp2_with fail
    go_ret
    exact ⟨rfl, rfl⟩
theorem IsPairs.max2 {w : World} {a : Option Addr} {len cap : Nat} {rs : List (Int × Int)} (h : IsPairs w a len cap rs) : len ≤ 9223372036854775807 := by
  rcases h with ⟨_, h1, _⟩ | ⟨x, _, h1, h2, _⟩
  · omega
  · unfold maxLen at h2; omega
set_option maxRecDepth 20000 in
set_option maxHeartbeats 8000000 in
theorem sz_solo (a0 a1 a2 a3 : Option Addr) (n0 c0 n1 c1 n2 c2 n3 c3 : Nat) (H : Ht) (la : Option Addr) (ln lc : Nat) (ps : List (Int × Int)) (ma : Option Addr) (mn mc : Nat) (zs : List Int) (w : World) (h : Hin w a0 n0 c0 a1 n1 c1 a2 n2 c2 a3 n3 c3 H) (hp : IsPairs w la ln lc ps) (hz : IsRow .i64 w ma mn mc zs) :
    Calls Tryz.prog 4 #[.agg #[.slice a0 n0 c0, .int .i64 H.pc, .slice a1 n1 c1, .bool H.halted, .bool H.waiting, .bool H.rung, .int .i64 H.done, .slice a2 n2 c2, .slice a3 n3 c3, .slice la ln lc, .slice ma mn mc], .int .i64 1048576] w fun e w' => (∃ r : Int, e = .returned (.int .i64 r) ∧ (0 ≤ r → Hs n0 n1 n2 n3 ∧ ln ≤ 1048576 ∧ mn ≤ 1048576)) ∧ Below w.heap.size w w' := by
  have LP : Hid (ln ≤ 9223372036854775807) := hp.max2
  have LM : Hid (mn ≤ 9223372036854775807) := hz.ln.2
  generalize hW : w.alloc (.cells #[.slice a0 n0 c0, .int .i64 H.pc, .slice a1 n1 c1, .bool H.halted, .bool H.waiting, .bool H.rung, .int .i64 H.done, .slice a2 n2 c2, .slice a3 n3 c3, .slice la ln lc, .slice ma mn mc] 27) = W
  have B0 : Hid (Below w.heap.size w W) := by show Below _ _ _; rw [← hW]; exact al (Below.refl _ _) _
  obtain ⟨s, hS⟩ : ∃ s, w.heap.size = s := ⟨_, rfl⟩
  have Q : Hid (Vb W s #[.slice a0 n0 c0, .int .i64 H.pc, .slice a1 n1 c1, .bool H.halted, .bool H.waiting, .bool H.rung, .int .i64 H.done, .slice a2 n2 c2, .slice a3 n3 c3, .slice la ln lc, .slice ma mn mc] 27) := by
    show Vb _ _ _ _
    rw [← hW, ← hS]
    exact Vb.new _ _ _
  have HP : Hid (Hin W a0 n0 c0 a1 n1 c1 a2 n2 c2 a3 n3 c3 H) := h.stay B0.out
  clear h hp hz
  have q0 := Q.out.cell 0 rfl
  have q1 := Q.out.cell 1 rfl
  have q2 := Q.out.cell 2 rfl
  have q3 := Q.out.cell 3 rfl
  have q4 := Q.out.cell 4 rfl
  have q5 := Q.out.cell 5 rfl
  have q6 := Q.out.cell 6 rfl
  have q7 := Q.out.cell 7 rfl
  have q8 := Q.out.cell 8 rfl
  have q9 := Q.out.cell 9 rfl
  have q10 := Q.out.cell 10 rfl
  go_enter Tryz.func4, Tryz.ntmps4
  go_wp2_with fail
  clear hW hS
  refine (sz_hart _ _ _ _ _ _ _ _ _ _ _ _ H _ HP.out).mono ?_
  rintro e w1 ⟨⟨r, rfl, hr, hs⟩, b1⟩
  have B1 : Hid (Below w.heap.size w w1) := on B0.out b1
  have Q1 : Hid (Vb w1 s #[.slice a0 n0 c0, .int .i64 H.pc, .slice a1 n1 c1, .bool H.halted, .bool H.waiting, .bool H.rung, .int .i64 H.done, .slice a2 n2 c2, .slice a3 n3 c3, .slice la ln lc, .slice ma mn mc] 27) := Q.out.keep b1
  clear q0 q1 q2 q3 q4 q5 q6 q7 q8 q9 q10 b1
  by_cases hneg : r < 0
  · go_wp2_with fail
    go_ret
    exact ⟨⟨-1, rfl, fun h => by omega⟩, B1.out⟩
  have SM : Hid (Hs n0 n1 n2 n3) := hs (by omega)
  have HR : Hid (0 ≤ r ∧ r ≤ 1048576) := ⟨by omega, hr⟩
  have q9 := Q1.out.cell 9 rfl
  have q10 := Q1.out.cell 10 rfl
  clear hs hr
  by_cases h1 : r - ln < 0
  · have H1 : Hid (r - ln < 0) := h1
    clear h1
    go_wp2_with fail
    refine (sz_prs _ _ _ _ _ LP.out HR.out.1 HR.out.2).mono ?_
    rintro e w2 ⟨rfl, rfl⟩
    rw [if_pos H1.out]
    go_wp2_with fail
    go_ret
    exact ⟨⟨-1, rfl, fun h => by omega⟩, B1.out⟩
  have H1 : Hid (¬ r - ln < 0) := h1
  obtain ⟨r1, hr1⟩ : ∃ r1 : Int, r - ln = r1 := ⟨_, rfl⟩
  have K1 : Hid (r - ln = r1) := hr1
  have E1 : Hid (0 ≤ r1 ∧ r1 ≤ 1048576) := ⟨by omega, by have := HR.out; omega⟩
  have e1 : 0 ≤ r1 := E1.out.1
  have LL : Hid (ln ≤ 1048576) := by show _ ≤ _; have := HR.out; omega
  clear h1 hr1
  by_cases h2 : r1 - mn < 0
  · have H2 : Hid (r1 - mn < 0) := h2
    clear h2
    go_wp2_with fail
    refine (sz_prs _ _ _ _ _ LP.out HR.out.1 HR.out.2).mono ?_
    rintro e w2 ⟨rfl, rfl⟩
    rw [if_neg (by have := H1.out; omega), K1.out]
    go_wp2_with fail
    refine (szn _ _ _ _ _ LM.out E1.out.1 E1.out.2).mono ?_
    rintro e w2 ⟨rfl, rfl⟩
    rw [if_pos H2.out]
    go_wp2_with fail
    go_ret
    exact ⟨⟨-1, rfl, fun h => by omega⟩, B1.out⟩
  have H2 : Hid (¬ r1 - mn < 0) := h2
  obtain ⟨r2, hr2⟩ : ∃ r2 : Int, r1 - mn = r2 := ⟨_, rfl⟩
  have K2 : Hid (r1 - mn = r2) := hr2
  have e2 : 0 ≤ r2 := by omega
  have MM : Hid (mn ≤ 1048576) := by show _ ≤ _; have := E1.out; omega
  clear h2 hr2
  go_wp2_with fail
  refine (sz_prs _ _ _ _ _ LP.out HR.out.1 HR.out.2).mono ?_
  rintro e w2 ⟨rfl, rfl⟩
  rw [if_neg (by have := H1.out; omega), K1.out]
  go_wp2_with fail
  refine (szn _ _ _ _ _ LM.out E1.out.1 E1.out.2).mono ?_
  rintro e w2 ⟨rfl, rfl⟩
  rw [if_neg (by have := H2.out; omega), K2.out]
  go_wp2_with fail
  go_ret
  exact ⟨⟨r2, rfl, fun _ => ⟨SM.out, LL.out, MM.out⟩⟩, B1.out⟩
set_option maxRecDepth 20000 in
set_option maxHeartbeats 8000000 in
theorem to_solo (a0 a1 a2 a3 : Option Addr) (n0 c0 n1 c1 n2 c2 n3 c3 : Nat) (H : Ht) (la : Option Addr) (ln lc : Nat) (ps : List (Int × Int)) (ma : Option Addr) (mn mc : Nat) (zs : List Int) (w : World) (h : Hin w a0 n0 c0 a1 n1 c1 a2 n2 c2 a3 n3 c3 H) (hp : IsPairs w la ln lc ps) (hz : IsRow .i64 w ma mn mc zs) (hs : Hs n0 n1 n2 n3) (hl : ln ≤ 1048576) (hm : mn ≤ 1048576) :
    Calls Tryz.prog 6 #[.agg #[.slice a0 n0 c0, .int .i64 H.pc, .slice a1 n1 c1, .bool H.halted, .bool H.waiting, .bool H.rung, .int .i64 H.done, .slice a2 n2 c2, .slice a3 n3 c3, .slice la ln lc, .slice ma mn mc]] w fun e w' => ∃ r c i o l m, e = .returned (.agg #[r, .int .i64 H.pc, c, .bool H.halted, .bool H.waiting, .bool H.rung, .int .i64 H.done, i, o, l, m]) ∧ Sm w' w.heap.size r c i o l m H ps zs ∧ Below w.heap.size w w' := by
  have HS : Hid (Hs n0 n1 n2 n3 ∧ ln ≤ 1048576 ∧ mn ≤ 1048576) := ⟨hs, hl, hm⟩
  have HP : Hid (Hin w a0 n0 c0 a1 n1 c1 a2 n2 c2 a3 n3 c3 H ∧ IsPairs w la ln lc ps ∧ IsRow .i64 w ma mn mc zs) := ⟨h, hp, hz⟩
  clear h hp hz hs hl hm
  generalize hW : ((w.alloc (.cells #[.slice a0 n0 c0, .int .i64 H.pc, .slice a1 n1 c1, .bool H.halted, .bool H.waiting, .bool H.rung, .int .i64 H.done, .slice a2 n2 c2, .slice a3 n3 c3, .slice la ln lc, .slice ma mn mc] 27)).alloc (.cells #[.slice none 0 0, .int .i64 0, .slice none 0 0, .bool false, .bool false, .bool false, .int .i64 0, .slice none 0 0, .slice none 0 0, .slice none 0 0, .slice none 0 0] 32)).alloc (.cells #[.slice none 0 0, .int .i64 0, .slice none 0 0, .bool false, .bool false, .bool false, .int .i64 0, .slice none 0 0, .slice none 0 0, .slice none 0 0, .slice none 0 0] 32) = W
  obtain ⟨s, hS⟩ : ∃ s, w.heap.size = s := ⟨_, rfl⟩
  have HSs : Hid (w.heap.size = s) := hS
  have SZ : Hid (W.heap.size = s + 3) := by show _ = _; rw [← hW, ← hS]; simp
  have B0 : Hid (Below w.heap.size w W) := by show Below _ _ _; rw [← hW]; exact al (al (al (Below.refl _ _) _) _) _
  have z1 : s + 1 = (w.alloc (.cells #[.slice a0 n0 c0, .int .i64 H.pc, .slice a1 n1 c1, .bool H.halted, .bool H.waiting, .bool H.rung, .int .i64 H.done, .slice a2 n2 c2, .slice a3 n3 c3, .slice la ln lc, .slice ma mn mc] 27)).heap.size := by rw [← hS]; simp
  have z2 : s + 1 + 1 = ((w.alloc (.cells #[.slice a0 n0 c0, .int .i64 H.pc, .slice a1 n1 c1, .bool H.halted, .bool H.waiting, .bool H.rung, .int .i64 H.done, .slice a2 n2 c2, .slice a3 n3 c3, .slice la ln lc, .slice ma mn mc] 27)).alloc (.cells #[.slice none 0 0, .int .i64 0, .slice none 0 0, .bool false, .bool false, .bool false, .int .i64 0, .slice none 0 0, .slice none 0 0, .slice none 0 0, .slice none 0 0] 32)).heap.size := by rw [← hS]; simp
  have QA : Hid (Vb W s #[.slice a0 n0 c0, .int .i64 H.pc, .slice a1 n1 c1, .bool H.halted, .bool H.waiting, .bool H.rung, .int .i64 H.done, .slice a2 n2 c2, .slice a3 n3 c3, .slice la ln lc, .slice ma mn mc] 27) := by show Vb _ _ _ _; rw [← hW, ← hS]; exact ((Vb.new _ _ _).push _).push _
  have QR : Hid (Vb W (s + 1) #[.slice none 0 0, .int .i64 0, .slice none 0 0, .bool false, .bool false, .bool false, .int .i64 0, .slice none 0 0, .slice none 0 0, .slice none 0 0, .slice none 0 0] 32) := by show Vb _ _ _ _; rw [← hW, z1]; exact (Vb.new _ _ _).push _
  have QO : Hid (Vb W (s + 1 + 1) #[.slice none 0 0, .int .i64 0, .slice none 0 0, .bool false, .bool false, .bool false, .int .i64 0, .slice none 0 0, .slice none 0 0, .slice none 0 0, .slice none 0 0] 32) := by show Vb _ _ _ _; rw [← hW, z2]; exact Vb.new _ _ _
  clear z1 z2
  have q0 := QA.out.cell 0 rfl
  have q1 := QA.out.cell 1 rfl
  have q2 := QA.out.cell 2 rfl
  have q3 := QA.out.cell 3 rfl
  have q4 := QA.out.cell 4 rfl
  have q5 := QA.out.cell 5 rfl
  have q6 := QA.out.cell 6 rfl
  have q7 := QA.out.cell 7 rfl
  have q8 := QA.out.cell 8 rfl
  go_enter Tryz.func6, Tryz.ntmps6
  go_wp2_with fail
  clear hW hS q0 q1 q2 q3 q4 q5 q6 q7 q8
  refine (to_hart _ _ _ _ _ _ _ _ _ _ _ _ H _ (HP.out.1.stay B0.out) HS.out.1).mono ?_
  rintro e w1 ⟨r1, d1, i1, o1, rfl, m1, A1, b1⟩
  obtain ⟨xa0, xk0, hr1, _⟩ := m1.r.shape
  obtain ⟨xa1, xk1, hd1, _⟩ := m1.c.shape
  obtain ⟨xa2, xk2, hi1, _⟩ := m1.i.shape
  obtain ⟨xa3, xk3, ho1, _⟩ := m1.o.shape
  have one : r1.oneCell' = true ∧ d1.oneCell' = true ∧ i1.oneCell' = true ∧ o1.oneCell' = true := by rw [hr1, hd1, hi1, ho1]; exact ⟨rfl, rfl, rfl, rfl⟩
  have HR1 : Hid (r1 = .slice xa0 H.regs.length xk0 ∧ d1 = .slice xa1 H.csr.length xk1 ∧ i1 = .slice xa2 H.inn.length xk2 ∧ o1 = .slice xa3 H.out.length xk3) := ⟨hr1, hd1, hi1, ho1⟩
  have M1 : Hid (Hm w1 W.heap.size r1 d1 i1 o1 H) := m1
  have HA : Hid (Ha r1 d1 i1 o1) := A1
  have QA1 : Hid (Vb w1 s #[.slice a0 n0 c0, .int .i64 H.pc, .slice a1 n1 c1, .bool H.halted, .bool H.waiting, .bool H.rung, .int .i64 H.done, .slice a2 n2 c2, .slice a3 n3 c3, .slice la ln lc, .slice ma mn mc] 27) := QA.out.keep b1
  have QR1 : Hid (Vb w1 (s + 1) #[.slice none 0 0, .int .i64 0, .slice none 0 0, .bool false, .bool false, .bool false, .int .i64 0, .slice none 0 0, .slice none 0 0, .slice none 0 0, .slice none 0 0] 32) := QR.out.keep b1
  have QO1 : Hid (Vb w1 (s + 1 + 1) #[.slice none 0 0, .int .i64 0, .slice none 0 0, .bool false, .bool false, .bool false, .int .i64 0, .slice none 0 0, .slice none 0 0, .slice none 0 0, .slice none 0 0] 32) := QO.out.keep b1
  have B1 : Hid (Below w.heap.size w w1) := on B0.out b1
  have ZL : Hid (s + 3 ≤ w1.heap.size) := by show _ ≤ _; have := SZ.out; have := b1.size; omega
  clear m1 A1 b1 QA QR QO one hr1 hd1 hi1 ho1
  obtain ⟨hr, hd, hi, ho⟩ := HR1.out
  subst hr hd hi ho
  generalize hn0 : H.regs.length = rn at *
  generalize hn1 : H.csr.length = dn at *
  generalize hn2 : H.inn.length = inn at *
  generalize hn3 : H.out.length = on0 at *
  clear hn0 hn1 hn2 hn3 HR1
  have p0 := QO1.out.cell 0 rfl
  have p1 := QO1.out.cell 1 rfl
  have p2 := QO1.out.cell 2 rfl
  have p3 := QO1.out.cell 3 rfl
  have p4 := QO1.out.cell 4 rfl
  have p5 := QO1.out.cell 5 rfl
  have p6 := QO1.out.cell 6 rfl
  have p7 := QO1.out.cell 7 rfl
  have p8 := QO1.out.cell 8 rfl
  have f0 := QO1.out.free 0
  have f1 := QO1.out.free 1
  have f2 := QO1.out.free 2
  have f3 := QO1.out.free 3
  have f4 := QO1.out.free 4
  have f5 := QO1.out.free 5
  have f6 := QO1.out.free 6
  have f7 := QO1.out.free 7
  have f8 := QO1.out.free 8
  have e9 := QA1.out.cell 9 rfl
  have NN : Hid (_ ∧ _) := nineIn QO1.out (.slice xa0 rn xk0) (.int .i64 H.pc) (.slice xa1 dn xk1) (.bool H.halted) (.bool H.waiting) (.bool H.rung) (.int .i64 H.done) (.slice xa2 inn xk2) (.slice xa3 on0 xk3)
  go_wp2_with fail
  generalize (((((((((w1.setCell ⟨s + 1 + 1, 0, none⟩ (.slice xa0 rn xk0)).setCell ⟨s + 1 + 1, 1, none⟩ (.int .i64 H.pc)).setCell ⟨s + 1 + 1, 2, none⟩ (.slice xa1 dn xk1)).setCell ⟨s + 1 + 1, 3, none⟩ (.bool H.halted)).setCell ⟨s + 1 + 1, 4, none⟩ (.bool H.waiting)).setCell ⟨s + 1 + 1, 5, none⟩ (.bool H.rung)).setCell ⟨s + 1 + 1, 6, none⟩ (.int .i64 H.done)).setCell ⟨s + 1 + 1, 7, none⟩ (.slice xa2 inn xk2)).setCell ⟨s + 1 + 1, 8, none⟩ (.slice xa3 on0 xk3)) = v1 at *
  clear p0 p1 p2 p3 p4 p5 p6 p7 p8 f0 f1 f2 f3 f4 f5 f6 f7 f8 e9
  have QA2 : Hid (Vb v1 s #[.slice a0 n0 c0, .int .i64 H.pc, .slice a1 n1 c1, .bool H.halted, .bool H.waiting, .bool H.rung, .int .i64 H.done, .slice a2 n2 c2, .slice a3 n3 c3, .slice la ln lc, .slice ma mn mc] 27) := NN.out.2.vb QA1.out (by omega)
  have QR2 : Hid (Vb v1 (s + 1) #[.slice none 0 0, .int .i64 0, .slice none 0 0, .bool false, .bool false, .bool false, .int .i64 0, .slice none 0 0, .slice none 0 0, .slice none 0 0, .slice none 0 0] 32) := NN.out.2.vb QR1.out (by omega)
  have B2 : Hid (Below w.heap.size w v1) := Mq.under B1.out NN.out.2 fun k e => by have := HSs.out; omega
  have O1 : Hid (Ho (s + 3) w1 v1) := NN.out.2.ho fun k e => by omega
  have MV1 : Hid (Hm v1 (s + 3) (.slice xa0 rn xk0) (.slice xa1 dn xk1) (.slice xa2 inn xk2) (.slice xa3 on0 xk3) H) := (M1.out.mono (by have := SZ.out; omega)).ho O1.out
  clear QA1 QR1 QO1 M1 B1
  refine (to_pages _ _ _ _ _ (HP.out.2.1.stay B2.out) HS.out.2.1).mono ?_
  rintro e w2 ⟨g1, rfl, l2, b2⟩
  have L2 : Hid (Prs 61 w2 v1.heap.size (.slice (some ⟨g1, 0, none⟩) ln ln) ps) := l2
  have MV2 : Hid (Hm w2 (s + 3) (.slice xa0 rn xk0) (.slice xa1 dn xk1) (.slice xa2 inn xk2) (.slice xa3 on0 xk3) H) := MV1.out.keep b2
  have QO2 : Hid (Vb w2 (s + 1 + 1) #[.slice xa0 rn xk0, .int .i64 H.pc, .slice xa1 dn xk1, .bool H.halted, .bool H.waiting, .bool H.rung, .int .i64 H.done, .slice xa2 inn xk2, .slice xa3 on0 xk3, .slice none 0 0, .slice none 0 0] 32) := NN.out.1.keep b2
  have QA3 : Hid (Vb w2 s #[.slice a0 n0 c0, .int .i64 H.pc, .slice a1 n1 c1, .bool H.halted, .bool H.waiting, .bool H.rung, .int .i64 H.done, .slice a2 n2 c2, .slice a3 n3 c3, .slice la ln lc, .slice ma mn mc] 27) := QA2.out.keep b2
  have QR3 : Hid (Vb w2 (s + 1) #[.slice none 0 0, .int .i64 0, .slice none 0 0, .bool false, .bool false, .bool false, .int .i64 0, .slice none 0 0, .slice none 0 0, .slice none 0 0, .slice none 0 0] 32) := QR2.out.keep b2
  have B3 : Hid (Below w.heap.size w w2) := on B2.out b2
  have Z2 : Hid (s + 3 ≤ v1.heap.size) := by show _ ≤ _; have := NN.out.1.lt; omega
  clear l2 b2 MV1 QA2 QR2 B2 NN
  have p9 := QO2.out.cell 9 rfl
  have f9 := QO2.out.free 9
  have e10 := QA3.out.cell 10 rfl
  go_wp2_with fail
  clear p9 f9 e10
  have QO3 : Hid (Vb (w2.setCell ⟨s + 1 + 1, 9, none⟩ (.slice (some ⟨g1, 0, none⟩) ln ln)) (s + 1 + 1) #[.slice xa0 rn xk0, .int .i64 H.pc, .slice xa1 dn xk1, .bool H.halted, .bool H.waiting, .bool H.rung, .int .i64 H.done, .slice xa2 inn xk2, .slice xa3 on0 xk3, .slice (some ⟨g1, 0, none⟩) ln ln, .slice none 0 0] 32) := QO2.out.set 9 _
  have m9 : Mq (fun k => k = s + 1 + 1) w2 (w2.setCell ⟨s + 1 + 1, 9, none⟩ (.slice (some ⟨g1, 0, none⟩) ln ln)) := (Mq.refl _ _).set ⟨s + 1 + 1, 9, none⟩ _ rfl
  have QA4 : Hid (Vb (w2.setCell ⟨s + 1 + 1, 9, none⟩ (.slice (some ⟨g1, 0, none⟩) ln ln)) s #[.slice a0 n0 c0, .int .i64 H.pc, .slice a1 n1 c1, .bool H.halted, .bool H.waiting, .bool H.rung, .int .i64 H.done, .slice a2 n2 c2, .slice a3 n3 c3, .slice la ln lc, .slice ma mn mc] 27) := m9.vb QA3.out (by omega)
  have QR4 : Hid (Vb (w2.setCell ⟨s + 1 + 1, 9, none⟩ (.slice (some ⟨g1, 0, none⟩) ln ln)) (s + 1) #[.slice none 0 0, .int .i64 0, .slice none 0 0, .bool false, .bool false, .bool false, .int .i64 0, .slice none 0 0, .slice none 0 0, .slice none 0 0, .slice none 0 0] 32) := m9.vb QR3.out (by omega)
  have B4 : Hid (Below w.heap.size w (w2.setCell ⟨s + 1 + 1, 9, none⟩ (.slice (some ⟨g1, 0, none⟩) ln ln))) := Mq.under B3.out m9 fun k e => by have := HSs.out; omega
  have O2 : Ho (s + 3) w2 (w2.setCell ⟨s + 1 + 1, 9, none⟩ (.slice (some ⟨g1, 0, none⟩) ln ln)) := m9.ho fun k e => by omega
  have MV3 : Hid (Hm (w2.setCell ⟨s + 1 + 1, 9, none⟩ (.slice (some ⟨g1, 0, none⟩) ln ln)) (s + 3) (.slice xa0 rn xk0) (.slice xa1 dn xk1) (.slice xa2 inn xk2) (.slice xa3 on0 xk3) H) := MV2.out.ho O2
  have L3 : Hid (Prs 61 (w2.setCell ⟨s + 1 + 1, 9, none⟩ (.slice (some ⟨g1, 0, none⟩) ln ln)) (s + 3) (.slice (some ⟨g1, 0, none⟩) ln ln) ps) := (L2.out.mono Z2.out).put _ _ (fun e => by have h1 : v1.heap.size ≤ s + 1 + 1 := (L2.out.lt _ e).1; have := Z2.out; omega)
  clear m9 O2 QA3 QR3 QO2 B3 MV2 L2
  generalize w2.setCell ⟨s + 1 + 1, 9, none⟩ (.slice (some ⟨g1, 0, none⟩) ln ln) = v2 at *
  refine (to_nums _ _ _ _ _ (HP.out.2.2.stay B4.out) HS.out.2.2).mono ?_
  rintro e w3 ⟨g2, rfl, n3', b3⟩
  have N3 : Hid (Nums w3 v2.heap.size (.slice (some ⟨g2, 0, none⟩) mn mn) zs) := n3'
  have MA : Hid (Apt (.slice xa0 rn xk0) (.slice (some ⟨g2, 0, none⟩) mn mn) ∧ Apt (.slice xa1 dn xk1) (.slice (some ⟨g2, 0, none⟩) mn mn) ∧ Apt (.slice xa2 inn xk2) (.slice (some ⟨g2, 0, none⟩) mn mn) ∧ Apt (.slice xa3 on0 xk3) (.slice (some ⟨g2, 0, none⟩) mn mn)) := ⟨MV3.out.r.apt n3' (Nat.le_refl _), MV3.out.c.apt n3' (Nat.le_refl _), MV3.out.i.apt n3' (Nat.le_refl _), MV3.out.o.apt n3' (Nat.le_refl _)⟩
  have MV4 : Hid (Hm w3 (s + 3) (.slice xa0 rn xk0) (.slice xa1 dn xk1) (.slice xa2 inn xk2) (.slice xa3 on0 xk3) H) := MV3.out.keep b3
  have L4 : Hid (Prs 61 w3 (s + 3) (.slice (some ⟨g1, 0, none⟩) ln ln) ps) := L3.out.keep b3
  have QO4 : Hid (Vb w3 (s + 1 + 1) #[.slice xa0 rn xk0, .int .i64 H.pc, .slice xa1 dn xk1, .bool H.halted, .bool H.waiting, .bool H.rung, .int .i64 H.done, .slice xa2 inn xk2, .slice xa3 on0 xk3, .slice (some ⟨g1, 0, none⟩) ln ln, .slice none 0 0] 32) := QO3.out.keep b3
  have QR5 : Hid (Vb w3 (s + 1) #[.slice none 0 0, .int .i64 0, .slice none 0 0, .bool false, .bool false, .bool false, .int .i64 0, .slice none 0 0, .slice none 0 0, .slice none 0 0, .slice none 0 0] 32) := QR4.out.keep b3
  have B5 : Hid (Below w.heap.size w w3) := on B4.out b3
  have Z3 : Hid (s + 3 ≤ v2.heap.size) := by show _ ≤ _; have := QO3.out.lt; omega
  clear n3' b3 MV3 L3 QO3 QR4 QA4 B4
  have p10 := QO4.out.cell 10 rfl
  have f10 := QO4.out.free 10
  have m10 : Mq (fun k => k = s + 1 + 1) w3 (w3.setCell ⟨s + 1 + 1, 10, none⟩ (.slice (some ⟨g2, 0, none⟩) mn mn)) := (Mq.refl _ _).set ⟨s + 1 + 1, 10, none⟩ _ rfl
  have QO5 : Hid (Vb (w3.setCell ⟨s + 1 + 1, 10, none⟩ (.slice (some ⟨g2, 0, none⟩) mn mn)) (s + 1 + 1) #[.slice xa0 rn xk0, .int .i64 H.pc, .slice xa1 dn xk1, .bool H.halted, .bool H.waiting, .bool H.rung, .int .i64 H.done, .slice xa2 inn xk2, .slice xa3 on0 xk3, .slice (some ⟨g1, 0, none⟩) ln ln, .slice (some ⟨g2, 0, none⟩) mn mn] 32) := QO4.out.set 10 _
  have QR6 : Hid (Vb (w3.setCell ⟨s + 1 + 1, 10, none⟩ (.slice (some ⟨g2, 0, none⟩) mn mn)) (s + 1) #[.slice none 0 0, .int .i64 0, .slice none 0 0, .bool false, .bool false, .bool false, .int .i64 0, .slice none 0 0, .slice none 0 0, .slice none 0 0, .slice none 0 0] 32) := m10.vb QR5.out (by omega)
  have O3 : Ho (s + 3) w3 (w3.setCell ⟨s + 1 + 1, 10, none⟩ (.slice (some ⟨g2, 0, none⟩) mn mn)) := m10.ho fun k e => by omega
  have B6 : Hid (Below w.heap.size w (w3.setCell ⟨s + 1 + 1, 10, none⟩ (.slice (some ⟨g2, 0, none⟩) mn mn))) := Mq.under B5.out m10 fun k e => by have := HSs.out; omega
  have MV5 : Hid (Hm (w3.setCell ⟨s + 1 + 1, 10, none⟩ (.slice (some ⟨g2, 0, none⟩) mn mn)) (s + 3) (.slice xa0 rn xk0) (.slice xa1 dn xk1) (.slice xa2 inn xk2) (.slice xa3 on0 xk3) H) := MV4.out.ho O3
  have N5 : Hid (Nums (w3.setCell ⟨s + 1 + 1, 10, none⟩ (.slice (some ⟨g2, 0, none⟩) mn mn)) (s + 3) (.slice (some ⟨g2, 0, none⟩) mn mn) zs) := (N3.out.mono Z3.out).ho O3
  have L5 : Hid (Prs 61 (w3.setCell ⟨s + 1 + 1, 10, none⟩ (.slice (some ⟨g2, 0, none⟩) mn mn)) (s + 3) (.slice (some ⟨g1, 0, none⟩) ln ln) ps) := L4.out.put _ _ (fun e => by have h1 : s + 3 ≤ s + 1 + 1 := (L4.out.lt _ e).1; omega)
  go_upto_region 5 with fail
  clear p10 f10 m10 O3 QO4 QR5 MV4 N3 L4 B5
  generalize w3.setCell ⟨s + 1 + 1, 10, none⟩ (.slice (some ⟨g2, 0, none⟩) mn mn) = v3 at *
  have p0 := QO5.out.cell 0 rfl
  have p1 := QO5.out.cell 1 rfl
  have p2 := QO5.out.cell 2 rfl
  have p3 := QO5.out.cell 3 rfl
  have p4 := QO5.out.cell 4 rfl
  have p5 := QO5.out.cell 5 rfl
  have p6 := QO5.out.cell 6 rfl
  have p7 := QO5.out.cell 7 rfl
  have p8 := QO5.out.cell 8 rfl
  have p9 := QO5.out.cell 9 rfl
  have p10 := QO5.out.cell 10 rfl
  have y0 := QR6.out.cell 0 rfl
  have y1 := QR6.out.cell 1 rfl
  have y2 := QR6.out.cell 2 rfl
  have y3 := QR6.out.cell 3 rfl
  have y4 := QR6.out.cell 4 rfl
  have y5 := QR6.out.cell 5 rfl
  have y6 := QR6.out.cell 6 rfl
  have y7 := QR6.out.cell 7 rfl
  have y8 := QR6.out.cell 8 rfl
  have y9 := QR6.out.cell 9 rfl
  have y10 := QR6.out.cell 10 rfl
  have f0 := QR6.out.free 0
  have f1 := QR6.out.free 1
  have f2 := QR6.out.free 2
  have f3 := QR6.out.free 3
  have f4 := QR6.out.free 4
  have f5 := QR6.out.free 5
  have f6 := QR6.out.free 6
  have f7 := QR6.out.free 7
  have f8 := QR6.out.free 8
  have f9 := QR6.out.free 9
  have f10 := QR6.out.free 10
  have NR : Hid (_ ∧ _) := elevenX QR6.out (.slice xa0 rn xk0) (.int .i64 H.pc) (.slice xa1 dn xk1) (.bool H.halted) (.bool H.waiting) (.bool H.rung) (.int .i64 H.done) (.slice xa2 inn xk2) (.slice xa3 on0 xk3) (.slice (some ⟨g1, 0, none⟩) ln ln) (.slice (some ⟨g2, 0, none⟩) mn mn)
  go_wp2_with fail
  clear p0 p1 p2 p3 p4 p5 p6 p7 p8 p9 p10 y0 y1 y2 y3 y4 y5 y6 y7 y8 y9 y10 f0 f1 f2 f3 f4 f5 f6 f7 f8 f9 f10
  generalize (((((((((((v3.setCell ⟨s + 1, 0, none⟩ (.slice xa0 rn xk0)).setCell ⟨s + 1, 1, none⟩ (.int .i64 H.pc)).setCell ⟨s + 1, 2, none⟩ (.slice xa1 dn xk1)).setCell ⟨s + 1, 3, none⟩ (.bool H.halted)).setCell ⟨s + 1, 4, none⟩ (.bool H.waiting)).setCell ⟨s + 1, 5, none⟩ (.bool H.rung)).setCell ⟨s + 1, 6, none⟩ (.int .i64 H.done)).setCell ⟨s + 1, 7, none⟩ (.slice xa2 inn xk2)).setCell ⟨s + 1, 8, none⟩ (.slice xa3 on0 xk3)).setCell ⟨s + 1, 9, none⟩ (.slice (some ⟨g1, 0, none⟩) ln ln)).setCell ⟨s + 1, 10, none⟩ (.slice (some ⟨g2, 0, none⟩) mn mn)) = V at *
  have O4 : Ho (s + 3) v3 V := NR.out.2.ho fun k e => by omega
  have B7 : Hid (Below w.heap.size w V) := Mq.under B6.out NR.out.2 fun k e => by have := HSs.out; omega
  have SS : Hid (Sm V w.heap.size (.slice xa0 rn xk0) (.slice xa1 dn xk1) (.slice xa2 inn xk2) (.slice xa3 on0 xk3) (.slice (some ⟨g1, 0, none⟩) ln ln) (.slice (some ⟨g2, 0, none⟩) mn mn) H ps zs) := ⟨(MV5.out.ho O4).mono (by have := HSs.out; omega), HA.out, by
      have := L5.out.low' NR.out.2 (fun k e f => by have := (L5.out.lt k e).1; omega)
      exact this.mono (by have := HSs.out; omega), (N5.out.ho O4).mono (by have := HSs.out; omega), MA.out.1, MA.out.2.1, MA.out.2.2.1, MA.out.2.2.2⟩
  have x0 := NR.out.1.cell 0 rfl
  have x1 := NR.out.1.cell 1 rfl
  have x2 := NR.out.1.cell 2 rfl
  have x3 := NR.out.1.cell 3 rfl
  have x4 := NR.out.1.cell 4 rfl
  have x5 := NR.out.1.cell 5 rfl
  have x6 := NR.out.1.cell 6 rfl
  have x7 := NR.out.1.cell 7 rfl
  have x8 := NR.out.1.cell 8 rfl
  have x9 := NR.out.1.cell 9 rfl
  have x10 := NR.out.1.cell 10 rfl
  exact bodyPost_ret (v := .agg #[.slice xa0 rn xk0, .int .i64 H.pc, .slice xa1 dn xk1, .bool H.halted, .bool H.waiting, .bool H.rung, .int .i64 H.done, .slice xa2 inn xk2, .slice xa3 on0 xk3, .slice (some ⟨g1, 0, none⟩) ln ln, .slice (some ⟨g2, 0, none⟩) mn mn]) (by simp [results, Tryz.results6, go_sem, x0, x1, x2, x3, x4, x5, x6, x7, x8, x9, x10]) rfl
    ⟨_, _, _, _, _, _, rfl, SS.out, B7.out⟩
set_option maxRecDepth 20000 in
set_option maxHeartbeats 8000000 in
theorem eq_solo (r c i o l m r' c' i' o' l' m' : Value) (H : Ht) (ps : List (Int × Int)) (zs : List Int) (b b' : Nat) (w : World) (h : Sm w b r c i o l m H ps zs) (k : Sm w b' r' c' i' o' l' m' H ps zs) :
    Calls Tryz.prog 9 #[.agg #[r, .int .i64 H.pc, c, .bool H.halted, .bool H.waiting, .bool H.rung, .int .i64 H.done, i, o, l, m], .agg #[r', .int .i64 H.pc, c', .bool H.halted, .bool H.waiting, .bool H.rung, .int .i64 H.done, i', o', l', m']] w fun e w' => e = .returned (.bool true) ∧ Below w.heap.size w w' := by
  have HS : Hid (Sm w b r c i o l m H ps zs) := h
  have KS : Hid (Sm w b' r' c' i' o' l' m' H ps zs) := k
  obtain ⟨ha0, hk0, eh0, _⟩ := h.h.r.shape
  obtain ⟨ha1, hk1, eh1, _⟩ := h.h.c.shape
  obtain ⟨ha2, hk2, eh2, _⟩ := h.h.i.shape
  obtain ⟨ha3, hk3, eh3, _⟩ := h.h.o.shape
  obtain ⟨ha4, hk4, eh4, _⟩ := h.pl.shape
  obtain ⟨ha5, hk5, eh5, _⟩ := h.mm.shape
  obtain ⟨ka0, kk0, ek0, _⟩ := k.h.r.shape
  obtain ⟨ka1, kk1, ek1, _⟩ := k.h.c.shape
  obtain ⟨ka2, kk2, ek2, _⟩ := k.h.i.shape
  obtain ⟨ka3, kk3, ek3, _⟩ := k.h.o.shape
  obtain ⟨ka4, kk4, ek4, _⟩ := k.pl.shape
  obtain ⟨ka5, kk5, ek5, _⟩ := k.mm.shape
  clear h k
  subst eh0 ek0 eh1 ek1 eh2 ek2 eh3 ek3 eh4 ek4 eh5 ek5
  generalize hn0 : H.regs.length = n0 at *
  generalize hn1 : H.csr.length = n1 at *
  generalize hn2 : H.inn.length = n2 at *
  generalize hn3 : H.out.length = n3 at *
  generalize hn4 : ps.length = n4 at *
  generalize hn5 : zs.length = n5 at *
  clear hn0 hn1 hn2 hn3 hn4 hn5
  generalize hW : (w.alloc (.cells #[.slice ha0 n0 hk0, .int .i64 H.pc, .slice ha1 n1 hk1, .bool H.halted, .bool H.waiting, .bool H.rung, .int .i64 H.done, .slice ha2 n2 hk2, .slice ha3 n3 hk3, .slice ha4 n4 hk4, .slice ha5 n5 hk5] 32)).alloc (.cells #[.slice ka0 n0 kk0, .int .i64 H.pc, .slice ka1 n1 kk1, .bool H.halted, .bool H.waiting, .bool H.rung, .int .i64 H.done, .slice ka2 n2 kk2, .slice ka3 n3 kk3, .slice ka4 n4 kk4, .slice ka5 n5 kk5] 32) = W
  have B0 : Hid (Below w.heap.size w W) := by show Below _ _ _; rw [← hW]; exact al (al (Below.refl _ _) _) _
  obtain ⟨s, hS⟩ : ∃ s, w.heap.size = s := ⟨_, rfl⟩
  have z1 : s + 1 = (w.alloc (.cells #[.slice ha0 n0 hk0, .int .i64 H.pc, .slice ha1 n1 hk1, .bool H.halted, .bool H.waiting, .bool H.rung, .int .i64 H.done, .slice ha2 n2 hk2, .slice ha3 n3 hk3, .slice ha4 n4 hk4, .slice ha5 n5 hk5] 32)).heap.size := by rw [← hS]; simp
  have Q : Hid (Vb W s #[.slice ha0 n0 hk0, .int .i64 H.pc, .slice ha1 n1 hk1, .bool H.halted, .bool H.waiting, .bool H.rung, .int .i64 H.done, .slice ha2 n2 hk2, .slice ha3 n3 hk3, .slice ha4 n4 hk4, .slice ha5 n5 hk5] 32) := by show Vb _ _ _ _; rw [← hW, ← hS]; exact (Vb.new _ _ _).push _
  have R : Hid (Vb W (s + 1) #[.slice ka0 n0 kk0, .int .i64 H.pc, .slice ka1 n1 kk1, .bool H.halted, .bool H.waiting, .bool H.rung, .int .i64 H.done, .slice ka2 n2 kk2, .slice ka3 n3 kk3, .slice ka4 n4 kk4, .slice ka5 n5 kk5] 32) := by show Vb _ _ _ _; rw [← hW, z1]; exact Vb.new _ _ _
  clear z1
  have q0 := Q.out.cell 0 rfl
  have q1 := Q.out.cell 1 rfl
  have q2 := Q.out.cell 2 rfl
  have q3 := Q.out.cell 3 rfl
  have q4 := Q.out.cell 4 rfl
  have q5 := Q.out.cell 5 rfl
  have q6 := Q.out.cell 6 rfl
  have q7 := Q.out.cell 7 rfl
  have q8 := Q.out.cell 8 rfl
  have p0 := R.out.cell 0 rfl
  have p1 := R.out.cell 1 rfl
  have p2 := R.out.cell 2 rfl
  have p3 := R.out.cell 3 rfl
  have p4 := R.out.cell 4 rfl
  have p5 := R.out.cell 5 rfl
  have p6 := R.out.cell 6 rfl
  have p7 := R.out.cell 7 rfl
  have p8 := R.out.cell 8 rfl
  go_enter Tryz.func9, Tryz.ntmps9
  go_wp2_with fail
  clear hW hS q0 q1 q2 q3 q4 q5 q6 q7 q8 p0 p1 p2 p3 p4 p5 p6 p7 p8
  refine (eq_hart _ _ _ _ _ _ _ _ H _ _ _ (HS.out.h.keep B0.out) (KS.out.h.keep B0.out)).mono ?_
  rintro e w1 ⟨rfl, b1⟩
  have B1 : Hid (Below w.heap.size w w1) := on B0.out b1
  have Q1 := Q.out.keep b1
  have R1 := R.out.keep b1
  have q9 := Q1.cell 9 rfl
  have p9 := R1.cell 9 rfl
  have QR : Hid (_ ∧ _) := And.intro Q1 R1
  clear b1 Q1 R1 Q R
  go_wp2_with fail
  clear q9 p9
  refine (eq_pages _ _ ps _ _ _ (HS.out.pl.keep B1.out) (KS.out.pl.keep B1.out)).mono ?_
  rintro e w2 ⟨rfl, b2⟩
  have B2 : Hid (Below w.heap.size w w2) := on B1.out b2
  have q10 := (QR.out.1.keep b2).cell 10 rfl
  have p10 := (QR.out.2.keep b2).cell 10 rfl
  clear b2 QR
  go_wp2_with fail
  clear q10 p10
  refine (eq_nums _ _ zs _ _ _ (HS.out.mm.keep B2.out) (KS.out.mm.keep B2.out)).mono ?_
  rintro e w3 ⟨rfl, b3⟩
  have B3 : Hid (Below w.heap.size w w3) := on B2.out b3
  clear b3
  go_wp2_with fail
  go_ret
  exact ⟨rfl, B3.out⟩
def totS (H : Ht) (ps : List (Int × Int)) (zs : List Int) : Nat := totH H + 2 * ps.length + zs.length
def OwnS (r c i o l m : Value) (k : Nat) : Prop := Own4 r c i o k ∨ l.ownBlock = some k ∨ m.ownBlock = some k
theorem mq_wid {S T : Nat → Prop} {w w' : World} (m : Mq S w w') (h : ∀ k, S k → T k) : Mq T w w' := ⟨m.os, m.tape, m.output, m.size, fun k hk hn => m.block k hk fun e => hn (h k e)⟩
theorem apt_no {a b : Value} {x : Nat} (h : Apt a b) (e : a.ownBlock = some x) (f : b.ownBlock = some x) : False := by
  rcases h with h | h
  · rw [h] at e; cases e
  · exact h (e.trans f.symm)
/-- A list of pages lies in no block of numbers. -/
theorem prs_ne_nums {w : World} {b b' : Nat} {v u : Value} {rs : List (Int × Int)} {zs : List Int} (h : Prs 61 w b v rs) (k : Nums w b' u zs) : ∀ x, v.ownBlock = some x → u.ownBlock ≠ some x := by
  intro x e f
  obtain ⟨h1, h2 | ⟨g, cap, cur, hv, hg, hr, rest⟩⟩ := h
  · rw [h2.1] at e; cases e
  · obtain ⟨k1, k2 | ⟨g', cap', cur', kv, kg, kr, krest⟩⟩ := k
    · rw [k2.1] at f; cases f
    · subst hv kv
      have e1 : g = x := by simpa [Value.ownBlock] using e
      have e2 : g' = x := by simpa [Value.ownBlock] using f
      subst e1 e2
      rw [hr] at kr
      simp at kr
set_option maxRecDepth 20000 in
set_option maxHeartbeats 8000000 in
theorem mark_solo (r c i o l m : Value) (H : Ht) (ps : List (Int × Int)) (zs : List Int) (k : Int) (b : Nat) (w : World) (h : Sm w b r c i o l m H ps zs) (hk : 0 ≤ k) (hz : k + totS H ps zs ≤ 4611686018427387904) :
    Calls Tryz.prog 10 #[.agg #[r, .int .i64 H.pc, c, .bool H.halted, .bool H.waiting, .bool H.rung, .int .i64 H.done, i, o, l, m], .int .i64 k] w fun e w' => e = .returned (.int .i64 (k + totS H ps zs)) ∧ Sm w' b r c i o l m (mkH k H) (pmarks (k + totH H) ps.length) (marks (k + totH H + (2 * ps.length : Nat)) zs.length) ∧ Mq (OwnS r c i o l m) w w' := by
  have HS : Hid (Sm w b r c i o l m H ps zs) := h
  have HK : Hid (0 ≤ k ∧ k + totS H ps zs ≤ 4611686018427387904) := ⟨hk, hz⟩
  have TS : Hid (k + (totS H ps zs : Nat) = k + totH H + (2 * ps.length : Nat) + zs.length) := by show _ = _; unfold totS; omega
  have TQ : Hid (k + totH H ≤ 4611686018427387904 ∧ 0 ≤ k + totH H ∧ k + totH H + (2 * ps.length : Nat) ≤ 4611686018427387904 ∧ 0 ≤ k + totH H + (2 * ps.length : Nat) ∧ k + totH H + (2 * ps.length : Nat) + zs.length ≤ 4611686018427387904) := by have := TS.out; exact ⟨by omega, by omega, by omega, by omega, by omega⟩
  obtain ⟨a0, k0, e0, _⟩ := h.h.r.shape
  obtain ⟨a1, k1, e1, _⟩ := h.h.c.shape
  obtain ⟨a2, k2, e2, _⟩ := h.h.i.shape
  obtain ⟨a3, k3, e3, _⟩ := h.h.o.shape
  obtain ⟨a4, k4, e4, _⟩ := h.pl.shape
  obtain ⟨a5, k5, e5, _⟩ := h.mm.shape
  clear h hk hz
  subst e0 e1 e2 e3 e4 e5
  generalize hn0 : H.regs.length = n0 at *
  generalize hn1 : H.csr.length = n1 at *
  generalize hn2 : H.inn.length = n2 at *
  generalize hn3 : H.out.length = n3 at *
  obtain ⟨n4, hn4⟩ : ∃ n, ps.length = n := ⟨_, rfl⟩
  obtain ⟨n5, hn5⟩ : ∃ n, zs.length = n := ⟨_, rfl⟩
  have HN : Hid (ps.length = n4 ∧ zs.length = n5) := ⟨hn4, hn5⟩
  rw [hn4, hn5] at HS TS TQ ⊢
  clear hn0 hn1 hn2 hn3 hn4 hn5
  obtain ⟨t1, ht1⟩ : ∃ t, k + (totH H : Nat) = t := ⟨_, rfl⟩
  rw [ht1] at TS TQ ⊢
  have T1 : Hid (k + (totH H : Nat) = t1) := ht1
  clear ht1
  generalize hW : w.alloc (.cells #[.slice a0 n0 k0, .int .i64 H.pc, .slice a1 n1 k1, .bool H.halted, .bool H.waiting, .bool H.rung, .int .i64 H.done, .slice a2 n2 k2, .slice a3 n3 k3, .slice a4 n4 k4, .slice a5 n5 k5] 32) = W
  have B0 : Hid (Below w.heap.size w W) := by show Below _ _ _; rw [← hW]; exact al (Below.refl _ _) _
  obtain ⟨s, hS⟩ : ∃ s, w.heap.size = s := ⟨_, rfl⟩
  have Q : Hid (Vb W s #[.slice a0 n0 k0, .int .i64 H.pc, .slice a1 n1 k1, .bool H.halted, .bool H.waiting, .bool H.rung, .int .i64 H.done, .slice a2 n2 k2, .slice a3 n3 k3, .slice a4 n4 k4, .slice a5 n5 k5] 32) := by show Vb _ _ _ _; rw [← hW, ← hS]; exact Vb.new _ _ _
  have HSs : Hid (w.heap.size = s) := hS
  have q0 := Q.out.cell 0 rfl
  have q1 := Q.out.cell 1 rfl
  have q2 := Q.out.cell 2 rfl
  have q3 := Q.out.cell 3 rfl
  have q4 := Q.out.cell 4 rfl
  have q5 := Q.out.cell 5 rfl
  have q6 := Q.out.cell 6 rfl
  have q7 := Q.out.cell 7 rfl
  have q8 := Q.out.cell 8 rfl
  go_enter Tryz.func10, Tryz.ntmps10
  go_wp2_with fail
  clear hW hS q0 q1 q2 q3 q4 q5 q6 q7 q8
  have K0 := HS.out.keep B0.out
  refine (mark_hart _ _ _ _ H k b W K0.h K0.a HK.out.1 (by have := TQ.out.1; have := T1.out; omega)).mono ?_
  rw [T1.out]
  rintro e w1 ⟨rfl, m1, g1⟩
  have OQ : ∀ x, Own4 (.slice a0 n0 k0) (.slice a1 n1 k1) (.slice a2 n2 k2) (.slice a3 n3 k3) x → x < s := fun x e => by have := (HS.out.h.own x e).2; have := HSs.out; omega
  have Q1 : Hid (Vb w1 s _ 32) := g1.vb Q.out (fun e => by have := OQ s e; omega)
  have M1 : Hid (Hm w1 b (.slice a0 n0 k0) (.slice a1 n1 k1) (.slice a2 n2 k2) (.slice a3 n3 k3) (mkH k H)) := m1
  have L1 : Hid (Prs 61 w1 b (.slice a4 n4 k4) ps) := K0.pl.low' g1 (fun x e f => by
    rcases f with f | f | f | f
    · exact prs_ne_nums K0.pl K0.h.r x e f
    · exact prs_ne_nums K0.pl K0.h.c x e f
    · exact prs_ne_nums K0.pl K0.h.i x e f
    · exact prs_ne_nums K0.pl K0.h.o x e f)
  have N1 : Hid (Nums w1 b (.slice a5 n5 k5) zs) := g1.nums K0.mm (fun x e f => by
    rcases f with f | f | f | f
    · exact apt_no K0.rm f e
    · exact apt_no K0.cm f e
    · exact apt_no K0.im f e
    · exact apt_no K0.om f e)
  have G1 : Hid (Mq (OwnS (.slice a0 n0 k0) (.slice a1 n1 k1) (.slice a2 n2 k2) (.slice a3 n3 k3) (.slice a4 n4 k4) (.slice a5 n5 k5)) w w1) := (Mq.of (below_grown B0.out none) (fun k e => by cases e)).trans (mq_wid g1 fun x e => .inl e)
  clear m1 g1 OQ K0 Q
  have q9 := Q1.out.cell 9 rfl
  go_wp2_with fail
  clear q9
  have hq := mark_pages (.slice a4 n4 k4) t1 ps b w1 L1.out TQ.out.2.1 (by rw [HN.out.1]; exact TQ.out.2.2.1)
  rw [HN.out.1] at hq
  refine hq.mono ?_
  clear hq
  rintro e w2 ⟨rfl, l2, g2⟩
  have g2' : Mq (OwnS (.slice a0 n0 k0) (.slice a1 n1 k1) (.slice a2 n2 k2) (.slice a3 n3 k3) (.slice a4 n4 k4) (.slice a5 n5 k5)) w1 w2 := Mq.of g2 fun k e => .inr (.inl e.symm)
  have m2 : Mq (fun x => (Value.slice a4 n4 k4).ownBlock = some x) w1 w2 := Mq.of g2 fun k e => e.symm
  have Q2 : Hid (Vb w2 s _ 32) := m2.vb Q1.out (fun e => by have := (HS.out.pl.lt s e).2; have := HSs.out; omega)
  have L2 : Hid (Prs 61 w2 b (.slice a4 n4 k4) (pmarks t1 n4)) := l2
  have M2 : Hid (Hm w2 b (.slice a0 n0 k0) (.slice a1 n1 k1) (.slice a2 n2 k2) (.slice a3 n3 k3) (mkH k H)) := m2.hm M1.out (fun x e f => by
    rcases e with e | e | e | e
    · exact prs_ne_nums L1.out M1.out.r x f e
    · exact prs_ne_nums L1.out M1.out.c x f e
    · exact prs_ne_nums L1.out M1.out.i x f e
    · exact prs_ne_nums L1.out M1.out.o x f e)
  have N2 : Hid (Nums w2 b (.slice a5 n5 k5) zs) := m2.nums N1.out (fun x e f => prs_ne_nums L1.out N1.out x f e)
  have G2 : Hid (Mq (OwnS (.slice a0 n0 k0) (.slice a1 n1 k1) (.slice a2 n2 k2) (.slice a3 n3 k3) (.slice a4 n4 k4) (.slice a5 n5 k5)) w w2) := G1.out.trans g2'
  clear l2 g2 g2' m2 Q1 M1 L1 N1 G1
  have q10 := Q2.out.cell 10 rfl
  go_wp2_with fail
  clear q10
  have hq := mark_nums (.slice a5 n5 k5) (t1 + (2 * n4 : Nat)) zs b w2 N2.out TQ.out.2.2.2.1 (by rw [HN.out.2]; exact TQ.out.2.2.2.2)
  rw [HN.out.2] at hq
  refine hq.mono ?_
  clear hq
  rintro e w3 ⟨rfl, l3, g3⟩
  have m3 : Mq (fun x => (Value.slice a5 n5 k5).ownBlock = some x) w2 w3 := Mq.of g3 fun k e => e.symm
  have M3 : Hid (Hm w3 b (.slice a0 n0 k0) (.slice a1 n1 k1) (.slice a2 n2 k2) (.slice a3 n3 k3) (mkH k H)) := m3.hm M2.out (fun x e f => by
    rcases e with e | e | e | e
    · exact apt_no HS.out.rm e f
    · exact apt_no HS.out.cm e f
    · exact apt_no HS.out.im e f
    · exact apt_no HS.out.om e f)
  have L3 : Hid (Prs 61 w3 b (.slice a4 n4 k4) (pmarks t1 n4)) := L2.out.low' m3 (fun x e f => prs_ne_nums L2.out N2.out x e f)
  have N3 : Hid (Nums w3 b (.slice a5 n5 k5) (marks (t1 + (2 * n4 : Nat)) n5)) := l3
  have G3 : Hid (Mq (OwnS (.slice a0 n0 k0) (.slice a1 n1 k1) (.slice a2 n2 k2) (.slice a3 n3 k3) (.slice a4 n4 k4) (.slice a5 n5 k5)) w w3) := G2.out.trans (Mq.of g3 fun k e => .inr (.inr e.symm))
  clear l3 g3 m3 Q2 M2 L2 N2 G2
  go_wp2_with fail
  go_ret
  exact ⟨by rw [TS.out]; rfl, ⟨M3.out, HS.out.a, L3.out, N3.out, HS.out.rm, HS.out.cm, HS.out.im, HS.out.om⟩, G3.out⟩
set_option maxRecDepth 20000 in
set_option maxHeartbeats 8000000 in
theorem held_solo (r c i o l m : Value) (H : Ht) (np nz : Nat) (k : Int) (b : Nat) (w : World) (h : Hm w b r c i o (mkH k H)) (hl : Prs 61 w b l (pmarks (k + totH H) np)) (hm : Nums w b m (marks (k + totH H + (2 * np : Nat)) nz)) (hk : 0 ≤ k) (hz : k + totH H + (2 * np : Nat) + nz ≤ 4611686018427387904) :
    Calls Tryz.prog 33 #[.agg #[r, .int .i64 H.pc, c, .bool H.halted, .bool H.waiting, .bool H.rung, .int .i64 H.done, i, o, l, m], .int .i64 k] w fun e w' => e = .returned (.int .i64 (k + totH H + (2 * np : Nat) + nz)) ∧ Below w.heap.size w w' := by
  have HM : Hid (Hm w b r c i o (mkH k H)) := h
  have HL : Hid (Prs 61 w b l (pmarks (k + totH H) np)) := hl
  have HN : Hid (Nums w b m (marks (k + totH H + (2 * np : Nat)) nz)) := hm
  have HK : Hid (0 ≤ k ∧ k + totH H ≤ 4611686018427387904 ∧ 0 ≤ k + totH H ∧ k + totH H + (2 * np : Nat) ≤ 4611686018427387904 ∧ 0 ≤ k + totH H + (2 * np : Nat) ∧ k + totH H + (2 * np : Nat) + nz ≤ 4611686018427387904) := ⟨hk, by omega, by omega, by omega, by omega, hz⟩
  obtain ⟨a0, k0, e0, _⟩ := h.r.shape
  obtain ⟨a1, k1, e1, _⟩ := h.c.shape
  obtain ⟨a2, k2, e2, _⟩ := h.i.shape
  obtain ⟨a3, k3, e3, _⟩ := h.o.shape
  obtain ⟨a4, k4, e4, _⟩ := hl.shape
  obtain ⟨a5, k5, e5, _⟩ := hm.shape
  clear h hl hm hk hz
  subst e0 e1 e2 e3 e4 e5
  generalize hn0 : (mkH k H).regs.length = n0 at *
  generalize hn1 : (mkH k H).csr.length = n1 at *
  generalize hn2 : (mkH k H).inn.length = n2 at *
  generalize hn3 : (mkH k H).out.length = n3 at *
  generalize hn4 : (pmarks (k + totH H) np).length = n4 at *
  generalize hn5 : (marks (k + totH H + (2 * np : Nat)) nz).length = n5 at *
  clear hn0 hn1 hn2 hn3 hn4 hn5
  obtain ⟨t1, ht1⟩ : ∃ t, k + (totH H : Nat) = t := ⟨_, rfl⟩
  rw [ht1] at HK HL HN ⊢
  have T1 : Hid (k + (totH H : Nat) = t1) := ht1
  clear ht1
  generalize hW : w.alloc (.cells #[.slice a0 n0 k0, .int .i64 H.pc, .slice a1 n1 k1, .bool H.halted, .bool H.waiting, .bool H.rung, .int .i64 H.done, .slice a2 n2 k2, .slice a3 n3 k3, .slice a4 n4 k4, .slice a5 n5 k5] 32) = W
  have B0 : Hid (Below w.heap.size w W) := by show Below _ _ _; rw [← hW]; exact al (Below.refl _ _) _
  obtain ⟨s, hS⟩ : ∃ s, w.heap.size = s := ⟨_, rfl⟩
  have Q : Hid (Vb W s #[.slice a0 n0 k0, .int .i64 H.pc, .slice a1 n1 k1, .bool H.halted, .bool H.waiting, .bool H.rung, .int .i64 H.done, .slice a2 n2 k2, .slice a3 n3 k3, .slice a4 n4 k4, .slice a5 n5 k5] 32) := by show Vb _ _ _ _; rw [← hW, ← hS]; exact Vb.new _ _ _
  have q0 := Q.out.cell 0 rfl
  have q1 := Q.out.cell 1 rfl
  have q2 := Q.out.cell 2 rfl
  have q3 := Q.out.cell 3 rfl
  have q4 := Q.out.cell 4 rfl
  have q5 := Q.out.cell 5 rfl
  have q6 := Q.out.cell 6 rfl
  have q7 := Q.out.cell 7 rfl
  have q8 := Q.out.cell 8 rfl
  have p0 : 0 ≤ t1 := HK.out.2.2.1
  have p1 : 0 ≤ t1 + (2 * np : Nat) := HK.out.2.2.2.2.1
  have p2 : 0 ≤ t1 + (2 * np : Nat) + nz := by omega
  go_enter Tryz.func33, Tryz.ntmps33
  go_wp2_with fail
  clear hW hS q0 q1 q2 q3 q4 q5 q6 q7 q8
  refine (held_hart _ _ _ _ H k b W (HM.out.keep B0.out) HK.out.1 (by have := HK.out.2.1; have := T1.out; omega)).mono ?_
  rw [T1.out]
  rintro e w1 ⟨rfl, b1⟩
  have B1 : Hid (Below w.heap.size w w1) := on B0.out b1
  have Q1 : Hid (Vb w1 s _ 32) := Q.out.keep b1
  clear b1 Q
  have q9 := Q1.out.cell 9 rfl
  have q10 := Q1.out.cell 10 rfl
  go_wp2_with fail
  refine (held_pages _ t1 np b w1 (HL.out.keep B1.out) HK.out.2.2.1 HK.out.2.2.2.1).mono ?_
  rintro e y ⟨rfl, hy⟩
  rw [hy]
  clear hy y
  go_wp2_with fail
  refine (held_nums _ (t1 + (2 * np : Nat)) nz b w1 (HN.out.keep B1.out) HK.out.2.2.2.2.1 HK.out.2.2.2.2.2).mono ?_
  rintro e y ⟨rfl, hy⟩
  rw [hy]
  clear hy y
  go_wp2_with fail
  go_ret
  exact ⟨rfl, B1.out⟩
end Go.Proofs.YtimcoobhakfnaaaGreatDoor
namespace Go.Proofs.YtimcoobhakfnaaaGreatDoor
open Go.RowKit
set_option linter.unusedVariables false

/-- append of pages to a slice of pages of the call's own. -/
theorem wp_appp {ops : Array Oper} {rest : List Oper} {o : Oper} {act : Act} {Q : Exit → Act → World → Prop} (w : World) (hgd : o.guard = none) (s x : Operand)
    (ho : o.op = .call { callee := .builtin .append, args := #[s, x], argTypes := #[30, 30] }) (base : Nat) (v : Value) (zs : List (Int × Int)) (hs : act.eval s = v) (hN : Prs 61 w base v zs)
    (g m c b : Nat) (ys : List (Int × Int)) (hx : act.eval x = .slice (some ⟨g, 0, none⟩) m c) (hR : Prs 61 w b (.slice (some ⟨g, 0, none⟩) m c) ys) (hm : m = ys.length)
    (hlen : zs.length + m ≤ 1000000000) (hbase : base ≤ w.heap.size)
    (h : ∀ v' w', Prs 61 w' base v' (zs ++ ys) → w.grownBy w' v.ownBlock → wpList Tryz.prog ops Q rest (act.put o.dst v') w') : wpList Tryz.prog ops Q (o :: rest) act w := by
  obtain ⟨i, hi, hz0, hz1, hz2⟩ := info_parts info_page
  refine wpList_append_own w hgd s x 30 ho base 61 i _ 2 16 Tryz.underlying30 hi hz0 hz1 hz2 rfl (by decide) v zs.length _ hs hN ⟨g, 0, none⟩ m c (flat ys) hx (by rw [flat_length, hm]) ?_ (flat_one ys) (by unfold maxLen; omega) (by omega) hbase ?_
  · intro j u hj
    have hjl : j < m * 2 := by have := (List.getElem?_eq_some_iff.1 hj).1; rw [flat_length] at this; omega
    subst hm
    rw [show (⟨g, 0, none⟩ : Addr).add j = ⟨g, j, none⟩ by rw [Addr.add_lit]; simp, World.ownsRow.cellAt hR j (by omega)]
    exact hj
  · intro v' w' hown hgrow _
    refine h v' w' ?_ hgrow
    unfold Prs
    rw [List.length_append, flat_append, ← hm]
    exact hown
theorem prs_none (w : World) (base : Nat) (hb : base ≤ w.heap.size) : Prs 61 (w.alloc (.cells #[] 61)) base (.slice (some ⟨w.heap.size, 0, none⟩) 0 0) [] :=
  World.ownsRow_lit w #[] 0 hb (by decide) rfl
set_option maxRecDepth 20000 in
theorem i_cloneP (v : Value) (zs : List (Int × Int)) (b : Nat) (w : World) (h : Prs 61 w b v zs) (hn : zs.length ≤ 100000000) :
    Calls Tryz.prog 26 #[v] w fun e w' => ∃ u, e = .returned u ∧ Prs 61 w' w.heap.size u zs ∧ Below w.heap.size w w' := by
  have h' := h
  obtain ⟨h1, ⟨h2, h3⟩ | ⟨g, cap, cur, h2, _⟩⟩ := h'
  · have hz : zs = [] := List.length_eq_zero_iff.1 (by omega)
    subst h2
    rw [hz]
    clear h hn h1 h3
    have hnil : ∀ W, (binOp .eql 30 (.slice none 0 0) (.slice none 0 0)).run Tryz.prog W = .ok (.bool true) W := fun W => Lib.run_eql_slice_nil_nil W _ _ Tryz.underlying30
    go_enter Tryz.func26, Tryz.ntmps26
    go_wp2_with fail
    go_ret
    exact ⟨_, rfl, Prs.nil _ _ _, Below.refl _ _⟩
  subst h2
  obtain ⟨n, hl⟩ : ∃ n, zs.length = n := ⟨_, rfl⟩
  have HL : Hid (zs.length = n ∧ n ≤ 100000000) := ⟨hl, by omega⟩
  rw [hl] at h ⊢
  have HR : Hid (Prs 61 w b (.slice (some ⟨g, 0, none⟩) n cap) zs) := h
  clear h hn hl h1
  have hnil : ∀ W, (binOp .eql 30 (.slice (some ⟨g, 0, none⟩) n cap) (.slice none 0 0)).run Tryz.prog W = .ok (.bool false) W := fun W => Lib.run_eql_slice_some_nil W _ _ _ Tryz.underlying30
  go_enter Tryz.func26, Tryz.ntmps26
  go_wp2_with (at_builtin; refine wp_appp _ rfl _ _ rfl w.heap.size _ [] rfl (prs_none _ _ (Nat.le_refl _)) g n cap b zs rfl (HR.out.keep (al (Below.refl _ _) _)) HL.out.1.symm (by have := HL.out; simp; omega) (by simp) ?_; intro v' w' hN' hG')
  have B : Below w.heap.size w w' := pbelow_of_grown (al (Below.refl _ _) _) hG' (prs_none _ _ (Nat.le_refl _)) (Nat.le_refl _)
  go_wp2_with fail
  go_ret
  exact ⟨_, rfl, by simpa using hN', B⟩
end Go.Proofs.YtimcoobhakfnaaaGreatDoor
namespace Go.Proofs.YtimcoobhakfnaaaGreatDoor
open Go.RowKit
set_option linter.unusedVariables false

set_option maxRecDepth 20000 in
set_option maxHeartbeats 8000000 in
theorem s_copyX (r c i o : Value) (H : Ht) (b : Nat) (w : World) (h : Hm w b r c i o H) (h0 : H.regs.length ≤ 1000) (h1 : H.csr.length ≤ 1000) (h2 : H.inn.length ≤ 1000) (h3 : H.out.length ≤ 1000) :
    Calls Tryz.prog 37 #[.agg #[r, .int .i64 H.pc, c, .bool H.halted, .bool H.waiting, .bool H.rung, .int .i64 H.done, i, o]] w fun e w' => ∃ r' c' i' o', e = .returned (.agg #[r', .int .i64 H.pc, c', .bool H.halted, .bool H.waiting, .bool H.rung, .int .i64 H.done, i', o']) ∧ Hm w' w.heap.size r' c' i' o' H ∧ Ha r' c' i' o' ∧ Below w.heap.size w w' ∧ ∃ bo, w.heap.size ≤ bo ∧ bo ≤ w'.heap.size ∧ Nums w' bo o' H.out ∧ ∀ k, (r'.ownBlock = some k ∨ c'.ownBlock = some k ∨ i'.ownBlock = some k) → k < bo := by
  have HM : Hid (Hm w b r c i o H) := h
  have HL : Hid (H.regs.length ≤ 1000 ∧ H.csr.length ≤ 1000 ∧ H.inn.length ≤ 1000 ∧ H.out.length ≤ 1000) := ⟨h0, h1, h2, h3⟩
  obtain ⟨a0, k0, rfl, _⟩ := h.r.shape
  obtain ⟨a1, k1, rfl, _⟩ := h.c.shape
  obtain ⟨a2, k2, rfl, _⟩ := h.i.shape
  obtain ⟨a3, k3, rfl, _⟩ := h.o.shape
  clear h h0 h1 h2 h3
  generalize hW : (w.alloc (.cells #[.slice a0 H.regs.length k0, .int .i64 H.pc, .slice a1 H.csr.length k1, .bool H.halted, .bool H.waiting, .bool H.rung, .int .i64 H.done, .slice a2 H.inn.length k2, .slice a3 H.out.length k3] 29)).alloc (.cells #[.slice none 0 0, .int .i64 0, .slice none 0 0, .bool false, .bool false, .bool false, .int .i64 0, .slice none 0 0, .slice none 0 0] 29) = v0
  have SZ : Hid (v0.heap.size = w.heap.size + 2) := by show _ = _; rw [← hW]; simp
  obtain ⟨s, hS⟩ : ∃ s, w.heap.size = s := ⟨_, rfl⟩
  have HSs : Hid (w.heap.size = s) := hS
  have T0 : Hid (Cy w v0 s #[.slice a0 H.regs.length k0, .int .i64 H.pc, .slice a1 H.csr.length k1, .bool H.halted, .bool H.waiting, .bool H.rung, .int .i64 H.done, .slice a2 H.inn.length k2, .slice a3 H.out.length k3]) := by
    have z1 : s + 1 = (w.alloc (.cells #[.slice a0 H.regs.length k0, .int .i64 H.pc, .slice a1 H.csr.length k1, .bool H.halted, .bool H.waiting, .bool H.rung, .int .i64 H.done, .slice a2 H.inn.length k2, .slice a3 H.out.length k3] 29)).heap.size := by rw [← hS]; simp
    refine ⟨?_, ?_, by rw [← hW]; exact al (al (Below.refl _ _) _) _, hS⟩
    · rw [← hW, ← hS]; exact (Vb.new _ _ _).push _
    · rw [← hW, z1]; exact Vb.new _ _ _
  have LO : Hid (∀ k, Own4 (.slice a0 H.regs.length k0) (.slice a1 H.csr.length k1) (.slice a2 H.inn.length k2) (.slice a3 H.out.length k3) k → k < s) := fun k e => by have := (HM.out.own k e).2; have := HSs.out; omega
  have Z0 : Hid (s + 2 ≤ v0.heap.size) := by show _ ≤ _; have := SZ.out; have := HSs.out; omega
  have q0 := T0.out.A.cell 0 rfl
  have ls := T0.out.A.lt
  go_enter Tryz.func37, Tryz.ntmps37
  go_upto_region 2 with (at_builtin; refine wp_appy _ rfl _ _ rfl v0.heap.size _ [] rfl (nums_none _ _ (Nat.le_refl _)) a0 H.regs.length k0 H.regs rfl ((HM.out.r.rn.stay T0.out.b).stay (al (Below.refl _ _) _)) (by have := HL.out.1; simp; omega) (by simp) ?_; intro x0 w1 n1 g1; have b1 : Below v0.heap.size v0 w1 := below_of_grown (al (Below.refl _ _) _) g1 (nums_none _ _ (Nat.le_refl _)) (Nat.le_refl _); rw [List.nil_append] at n1; obtain ⟨xa0, xk0, rfl, _⟩ := n1.shape; clear ls; have S1 := T0.out.keep b1; have ls := S1.A.lt; have o0 := S1.A.cell 0 rfl; have f0 := S1.A.free 0; have e2 := S1.A.cell 2 rfl; clear g1)
  have MB0 : Hid (Nums w1 v0.heap.size (.slice xa0 H.regs.length xk0) H.regs) := n1
  have M0 : Hid (Nums w1 (s + 2) (.slice xa0 H.regs.length xk0) H.regs) := n1.mono Z0.out
  have T1 : Hid (Cy w (w1.setCell ⟨s, 0, none⟩ (.slice xa0 H.regs.length xk0)) s #[.slice xa0 H.regs.length xk0, .int .i64 H.pc, .slice a1 H.csr.length k1, .bool H.halted, .bool H.waiting, .bool H.rung, .int .i64 H.done, .slice a2 H.inn.length k2, .slice a3 H.out.length k3]) := S1.put 0 (.slice xa0 H.regs.length xk0)
  have H1 : Hid (Ho (s + 2) w1 (w1.setCell ⟨s, 0, none⟩ (.slice xa0 H.regs.length xk0))) := Ho.set _ _ _ (by show s < s + 2; omega)
  have Z1 : Hid (s + 2 ≤ (w1.setCell ⟨s, 0, none⟩ (.slice xa0 H.regs.length xk0)).heap.size) := (by have := T1.out.R.lt; show _ ≤ _; omega)
  have Y1 : Hid (w1.heap.size ≤ (w1.setCell ⟨s, 0, none⟩ (.slice xa0 H.regs.length xk0)).heap.size) := H1.out.size
  generalize (w1.setCell ⟨s, 0, none⟩ (.slice xa0 H.regs.length xk0)) = v1 at *
  clear S1 n1 b1 o0 f0 e2 q0 hW hS ls
  have ls := T1.out.A.lt
  have e2 := T1.out.A.cell 2 rfl
  go_upto_region 3 with (at_builtin; refine wp_appy _ rfl _ _ rfl v1.heap.size _ [] rfl (nums_none _ _ (Nat.le_refl _)) a1 H.csr.length k1 H.csr rfl ((HM.out.c.rn.stay T1.out.b).stay (al (Below.refl _ _) _)) (by have := HL.out.2.1; simp; omega) (by simp) ?_; intro x1 w2 n1 g1; have b1 : Below v1.heap.size v1 w2 := below_of_grown (al (Below.refl _ _) _) g1 (nums_none _ _ (Nat.le_refl _)) (Nat.le_refl _); rw [List.nil_append] at n1; obtain ⟨xa1, xk1, rfl, _⟩ := n1.shape; clear ls e2; have S1 := T1.out.keep b1; have ls := S1.A.lt; have o2 := S1.A.cell 2 rfl; have f2 := S1.A.free 2; have e7 := S1.A.cell 7 rfl; clear g1)
  have MB1 : Hid (Nums w2 v1.heap.size (.slice xa1 H.csr.length xk1) H.csr) := n1
  have H12 : Hid (Ho (s + 2) w1 w2) := H1.out.trans (Ho.of b1)
  have M1 : Hid (Nums w2 (s + 2) (.slice xa1 H.csr.length xk1) H.csr) := n1.mono Z1.out
  have T2 : Hid (Cy w (w2.setCell ⟨s, 2, none⟩ (.slice xa1 H.csr.length xk1)) s #[.slice xa0 H.regs.length xk0, .int .i64 H.pc, .slice xa1 H.csr.length xk1, .bool H.halted, .bool H.waiting, .bool H.rung, .int .i64 H.done, .slice a2 H.inn.length k2, .slice a3 H.out.length k3]) := S1.put 2 (.slice xa1 H.csr.length xk1)
  have H2 : Hid (Ho (s + 2) w2 (w2.setCell ⟨s, 2, none⟩ (.slice xa1 H.csr.length xk1))) := Ho.set _ _ _ (by show s < s + 2; omega)
  have Z2 : Hid (s + 2 ≤ (w2.setCell ⟨s, 2, none⟩ (.slice xa1 H.csr.length xk1)).heap.size) := (by have := T2.out.R.lt; show _ ≤ _; omega)
  have Y2 : Hid (w2.heap.size ≤ (w2.setCell ⟨s, 2, none⟩ (.slice xa1 H.csr.length xk1)).heap.size) := H2.out.size
  generalize (w2.setCell ⟨s, 2, none⟩ (.slice xa1 H.csr.length xk1)) = v2 at *
  clear S1 n1 b1 o2 f2 e7 ls
  have ls := T2.out.A.lt
  have e7 := T2.out.A.cell 7 rfl
  go_upto_region 4 with (at_builtin; refine wp_appy _ rfl _ _ rfl v2.heap.size _ [] rfl (nums_none _ _ (Nat.le_refl _)) a2 H.inn.length k2 H.inn rfl ((HM.out.i.rn.stay T2.out.b).stay (al (Below.refl _ _) _)) (by have := HL.out.2.2.1; simp; omega) (by simp) ?_; intro x2 w3 n1 g1; have b1 : Below v2.heap.size v2 w3 := below_of_grown (al (Below.refl _ _) _) g1 (nums_none _ _ (Nat.le_refl _)) (Nat.le_refl _); rw [List.nil_append] at n1; obtain ⟨xa2, xk2, rfl, _⟩ := n1.shape; clear ls e7; have S1 := T2.out.keep b1; have ls := S1.A.lt; have o7 := S1.A.cell 7 rfl; have f7 := S1.A.free 7; have e8 := S1.A.cell 8 rfl; clear g1)
  have MB2 : Hid (Nums w3 v2.heap.size (.slice xa2 H.inn.length xk2) H.inn) := n1
  have H23 : Hid (Ho (s + 2) w2 w3) := H2.out.trans (Ho.of b1)
  have M2 : Hid (Nums w3 (s + 2) (.slice xa2 H.inn.length xk2) H.inn) := n1.mono Z2.out
  have T3 : Hid (Cy w (w3.setCell ⟨s, 7, none⟩ (.slice xa2 H.inn.length xk2)) s #[.slice xa0 H.regs.length xk0, .int .i64 H.pc, .slice xa1 H.csr.length xk1, .bool H.halted, .bool H.waiting, .bool H.rung, .int .i64 H.done, .slice xa2 H.inn.length xk2, .slice a3 H.out.length k3]) := S1.put 7 (.slice xa2 H.inn.length xk2)
  have H3 : Hid (Ho (s + 2) w3 (w3.setCell ⟨s, 7, none⟩ (.slice xa2 H.inn.length xk2))) := Ho.set _ _ _ (by show s < s + 2; omega)
  have Z3 : Hid (s + 2 ≤ (w3.setCell ⟨s, 7, none⟩ (.slice xa2 H.inn.length xk2)).heap.size) := (by have := T3.out.R.lt; show _ ≤ _; omega)
  have Y3 : Hid (w3.heap.size ≤ (w3.setCell ⟨s, 7, none⟩ (.slice xa2 H.inn.length xk2)).heap.size) := H3.out.size
  generalize (w3.setCell ⟨s, 7, none⟩ (.slice xa2 H.inn.length xk2)) = v3 at *
  clear S1 n1 b1 o7 f7 e8 ls
  have ls := T3.out.A.lt
  have e8 := T3.out.A.cell 8 rfl
  go_upto_region 5 with (at_builtin; refine wp_appy _ rfl _ _ rfl v3.heap.size _ [] rfl (nums_none _ _ (Nat.le_refl _)) a3 H.out.length k3 H.out rfl ((HM.out.o.rn.stay T3.out.b).stay (al (Below.refl _ _) _)) (by have := HL.out.2.2.2; simp; omega) (by simp) ?_; intro x3 w4 n1 g1; have b1 : Below v3.heap.size v3 w4 := below_of_grown (al (Below.refl _ _) _) g1 (nums_none _ _ (Nat.le_refl _)) (Nat.le_refl _); rw [List.nil_append] at n1; obtain ⟨xa3, xk3, rfl, _⟩ := n1.shape; clear ls e8; have S1 := T3.out.keep b1; have ls := S1.A.lt; have o8 := S1.A.cell 8 rfl; have f8 := S1.A.free 8; have r0 := S1.R.cell 0 rfl; have y0 := S1.R.free 0; have r1 := S1.R.cell 1 rfl; have y1 := S1.R.free 1; have r2 := S1.R.cell 2 rfl; have y2 := S1.R.free 2; have r3 := S1.R.cell 3 rfl; have y3 := S1.R.free 3; have r4 := S1.R.cell 4 rfl; have y4 := S1.R.free 4; have r5 := S1.R.cell 5 rfl; have y5 := S1.R.free 5; have r6 := S1.R.cell 6 rfl; have y6 := S1.R.free 6; have r7 := S1.R.cell 7 rfl; have y7 := S1.R.free 7; have r8 := S1.R.cell 8 rfl; have y8 := S1.R.free 8; have l0 := S1.A.cell 0 rfl; have l1 := S1.A.cell 1 rfl; have l2 := S1.A.cell 2 rfl; have l3 := S1.A.cell 3 rfl; have l4 := S1.A.cell 4 rfl; have l5 := S1.A.cell 5 rfl; have l6 := S1.A.cell 6 rfl; have l7 := S1.A.cell 7 rfl; clear g1)
  have MB3 : Hid (Nums w4 v3.heap.size (.slice xa3 H.out.length xk3) H.out) := n1
  have YY : Hid (v3.heap.size ≤ w4.heap.size) := b1.size
  have H34 : Hid (Ho (s + 2) w3 w4) := H3.out.trans (Ho.of b1)
  have M3 : Hid (Nums w4 (s + 2) (.slice xa3 H.out.length xk3) H.out) := n1.mono Z3.out
  have T4 : Hid (Cy w (w4.setCell ⟨s, 8, none⟩ (.slice xa3 H.out.length xk3)) s #[.slice xa0 H.regs.length xk0, .int .i64 H.pc, .slice xa1 H.csr.length xk1, .bool H.halted, .bool H.waiting, .bool H.rung, .int .i64 H.done, .slice xa2 H.inn.length xk2, .slice xa3 H.out.length xk3]) := S1.put 8 (.slice xa3 H.out.length xk3)
  have H4 : Hid (Ho (s + 2) w4 (w4.setCell ⟨s, 8, none⟩ (.slice xa3 H.out.length xk3))) := Ho.set _ _ _ (by show s < s + 2; omega)
  have Z4 : Hid (s + 2 ≤ (w4.setCell ⟨s, 8, none⟩ (.slice xa3 H.out.length xk3)).heap.size) := by have := T4.out.R.lt; show _ ≤ _; omega
  have Y4 : Hid (w4.heap.size ≤ (w4.setCell ⟨s, 8, none⟩ (.slice xa3 H.out.length xk3)).heap.size) := H4.out.size
  go_wp2_with fail
  have NN : Hid (_ ∧ _) := nine T4.out.R (.slice xa0 H.regs.length xk0) (.int .i64 H.pc) (.slice xa1 H.csr.length xk1) (.bool H.halted) (.bool H.waiting) (.bool H.rung) (.int .i64 H.done) (.slice xa2 H.inn.length xk2) (.slice xa3 H.out.length xk3)
  clear S1 n1 b1 o8 f8 r0 y0 r1 y1 r2 y2 r3 y3 r4 y4 r5 y5 r6 y6 r7 y7 r8 y8 l0 l1 l2 l3 l4 l5 l6 l7
  generalize ((((((((((w4.setCell ⟨s, 8, none⟩ (.slice xa3 H.out.length xk3)).setCell ⟨s + 1, 0, none⟩ (.slice xa0 H.regs.length xk0)).setCell ⟨s + 1, 1, none⟩ (.int .i64 H.pc)).setCell ⟨s + 1, 2, none⟩ (.slice xa1 H.csr.length xk1)).setCell ⟨s + 1, 3, none⟩ (.bool H.halted)).setCell ⟨s + 1, 4, none⟩ (.bool H.waiting)).setCell ⟨s + 1, 5, none⟩ (.bool H.rung)).setCell ⟨s + 1, 6, none⟩ (.int .i64 H.done)).setCell ⟨s + 1, 7, none⟩ (.slice xa2 H.inn.length xk2)).setCell ⟨s + 1, 8, none⟩ (.slice xa3 H.out.length xk3)) = V at *
  generalize (w4.setCell ⟨s, 8, none⟩ (.slice xa3 H.out.length xk3)) = v4 at *
  have H5 : Hid (Ho (s + 2) w4 V) := H4.out.trans (NN.out.2.ho fun k e => by omega)
  have B5 : Hid (Below w.heap.size w V) := Mq.under T4.out.b NN.out.2 fun k e => by have := HSs.out; omega
  have A01 := MB0.out.apt MB1.out Y1.out
  have A02 := MB0.out.apt MB2.out (Nat.le_trans H12.out.size Y2.out)
  have A03 := MB0.out.apt MB3.out (Nat.le_trans (Nat.le_trans H12.out.size H23.out.size) Y3.out)
  have A12 := MB1.out.apt MB2.out Y2.out
  have A13 := MB1.out.apt MB3.out (Nat.le_trans H23.out.size Y3.out)
  have A23 := MB2.out.apt MB3.out Y3.out
  have R0 : Nums V w.heap.size (.slice xa0 H.regs.length xk0) H.regs := (M0.out.ho (H12.out.trans (H23.out.trans (H34.out.trans H5.out)))).mono (by have := HSs.out; omega)
  have R1 : Nums V w.heap.size (.slice xa1 H.csr.length xk1) H.csr := (M1.out.ho (H23.out.trans (H34.out.trans H5.out))).mono (by have := HSs.out; omega)
  have R2 : Nums V w.heap.size (.slice xa2 H.inn.length xk2) H.inn := (M2.out.ho (H34.out.trans H5.out)).mono (by have := HSs.out; omega)
  have R3 : Nums V w.heap.size (.slice xa3 H.out.length xk3) H.out := (M3.out.ho H5.out).mono (by have := HSs.out; omega)
  have x0 := NN.out.1.cell 0 rfl
  have x1 := NN.out.1.cell 1 rfl
  have x2 := NN.out.1.cell 2 rfl
  have x3 := NN.out.1.cell 3 rfl
  have x4 := NN.out.1.cell 4 rfl
  have x5 := NN.out.1.cell 5 rfl
  have x6 := NN.out.1.cell 6 rfl
  have x7 := NN.out.1.cell 7 rfl
  have x8 := NN.out.1.cell 8 rfl
  exact bodyPost_ret (v := .agg #[.slice xa0 H.regs.length xk0, .int .i64 H.pc, .slice xa1 H.csr.length xk1, .bool H.halted, .bool H.waiting, .bool H.rung, .int .i64 H.done, .slice xa2 H.inn.length xk2, .slice xa3 H.out.length xk3]) (by simp [results, Tryz.results37, go_sem, x0, x1, x2, x3, x4, x5, x6, x7, x8]) rfl
    ⟨_, _, _, _, rfl, ⟨R0, R1, R2, R3⟩, ⟨A01, A02, A03, A12, A13, A23⟩, B5.out, v3.heap.size, T3.out.b.size, Nat.le_trans YY.out H5.out.size, MB3.out.ho ⟨H5.out.size, fun k hb hk => H5.out.block k (Nat.le_trans Z3.out hb) hk⟩, fun k e => by
      have h1 := H12.out.size
      have h2 := H23.out.size
      have h3 := Y3.out
      rcases e with e | e | e
      · have := (MB0.out.lt k e).2; omega
      · have := (MB1.out.lt k e).2; omega
      · have := (MB2.out.lt k e).2; omega⟩
set_option maxHeartbeats 1000000 in
theorem spec_copyZ (g cap : Nat) (zs : List Int) (b : Nat) (w : World) (h : Nums w b (.slice (some ⟨g, 0, none⟩) zs.length cap) zs) (hn : zs.length ≤ 1000000) :
    Calls Tryz.prog 38 #[.slice (some ⟨g, 0, none⟩) zs.length cap] w fun e w' => ∃ v, e = .returned v ∧ Nums w' w.heap.size v zs ∧ Below w.heap.size w w' := by
  have HZ : Hid (Nums w b _ zs) := h
  obtain ⟨n, hn2⟩ : ∃ n, zs.length = n := ⟨_, rfl⟩
  rw [hn2] at HZ hn ⊢
  have HL : Hid (zs.length = n ∧ n ≤ 1000000) := ⟨hn2, hn⟩
  clear h hn2 hn
  go_enter Tryz.func38, Tryz.ntmps38
  go_wp2_with (at_builtin; refine wp_append _ rfl _ _ rfl w.heap.size _ _ rfl (nums_none w w.heap.size (Nat.le_refl _)) g n cap zs rfl HL.out.1 (fun i hi => cell_push _ (HZ.out.cell HL.out.1.symm i hi)) (by have := HL.out; simp; omega) (by simp) ?_; intro v' w' hN' hG')
  have N' : Hid (Nums w' w.heap.size v' zs) := by rw [List.nil_append] at hN'; exact hN'
  have B' : Hid (Below w.heap.size w w') := (al (Below.refl _ _) _).grown hG' (by simp) (fun k hk => Nat.le_of_eq (Option.some.inj hk))
  clear hN' hG'
  go_wp2_with fail
  go_ret
  exact ⟨_, rfl, N'.out, B'.out⟩
end Go.Proofs.YtimcoobhakfnaaaGreatDoor
namespace Go.Proofs.YtimcoobhakfnaaaGreatDoor
open Go.RowKit
set_option linter.unusedVariables false

def wholeS (ms : List Int) : Bool := decide (ms.length = 64) && decide (memV ms = 0)
def sfV (H : Ht) (ps : List (Int × Int)) (zs : List Int) : Int := if hfV H = 0 then (if pgsV ps 8 = 0 then (if wholeS zs = true then 0 else 1) else pgsV ps 8) else hfV H
theorem i_whole8 (v : Value) (ms : List Int) (b : Nat) (w : World) (h : Nums w b v ms) :
    Calls Tryz.prog 49 #[v, .int .i64 8] w fun e w' => e = .returned (.bool (wholeS ms)) ∧ w' = w := by
  obtain ⟨a, cap, rfl, l1, l2, hg⟩ := h.shape
  have HM : Hid (Nums w b _ ms) := h
  unfold wholeS
  have hl : (ms.length : Int) ≤ 9223372036854775807 := by unfold maxLen at l2; omega
  obtain ⟨n, hn⟩ : ∃ n, ms.length = n := ⟨_, rfl⟩
  rw [hn] at HM hl ⊢
  clear h l1 l2 hg
  by_cases h1 : n = 64
  · rw [decide_eq_true h1, Bool.true_and]
    have h1i : (n : Int) = 64 := by omega
    have HM2 : Hid (Nums w b (.slice a 64 cap) ms) := by rw [h1] at HM; exact HM
    subst h1
    clear hn h1i
    by_cases h2 : memV ms = 0
    · go_enter Tryz.func49, Tryz.ntmps49
      go_wp2_with (go_at_call 77; refine (impl_memFault _ ms b _ HM2.out).mono ?_; rintro e w ⟨rfl, rfl⟩; rw [h2])
      go_ret
      exact ⟨by first | rfl | simp [h2], rfl⟩
    · have h4 : decide (memV ms = 0) = false := decide_eq_false h2
      rw [h4]
      obtain ⟨mv, hmv⟩ : ∃ mv, memV ms = mv := ⟨_, rfl⟩
      rw [hmv] at h2
      have HMV : Hid (memV ms = mv) := hmv
      clear hmv h4
      have h5 : (mv == 0) = false := by simpa using h2
      go_enter Tryz.func49, Tryz.ntmps49
      go_wp2_with (go_at_call 77; refine (impl_memFault _ ms b _ HM2.out).mono ?_; rintro e w ⟨rfl, rfl⟩; rw [HMV.out])
      go_ret
      exact ⟨by first | rfl | simp [h5], rfl⟩
  · have h1i : ¬ (n : Int) = 64 := by omega
    rw [decide_eq_false h1, Bool.false_and]
    clear hn
    go_enter Tryz.func49, Tryz.ntmps49
    go_wp2_with fail
    go_ret
    exact ⟨by first | rfl | simp_all, rfl⟩
set_option maxRecDepth 20000 in
set_option maxHeartbeats 8000000 in
theorem i_soloFault (r c i o l m : Value) (H : Ht) (ps : List (Int × Int)) (zs : List Int) (b : Nat) (w : World) (h : Sm w b r c i o l m H ps zs) (hl : ps.length ≤ 1048576) :
    Calls Tryz.prog 24 #[.agg #[r, .int .i64 H.pc, c, .bool H.halted, .bool H.waiting, .bool H.rung, .int .i64 H.done, i, o, l, m]] w fun e w' => e = .returned (.int .i64 (sfV H ps zs)) ∧ Below w.heap.size w w' := by
  have HS : Hid (Sm w b r c i o l m H ps zs) := h
  have HL : Hid (ps.length ≤ 1048576) := hl
  obtain ⟨z, hz⟩ : ∃ z, sfV H ps zs = z := ⟨_, rfl⟩
  obtain ⟨x, hx⟩ : ∃ x, hfV H = x := ⟨_, rfl⟩
  obtain ⟨y, hy⟩ : ∃ y, pgsV ps 8 = y := ⟨_, rfl⟩
  rw [hz]
  have Z : Hid (z = if x = 0 then (if y = 0 then (if wholeS zs = true then 0 else 1) else y) else x) := by show _ = _; rw [← hz, ← hx, ← hy]; rfl
  have HX : Hid (hfV H = x) := hx
  have HY : Hid (pgsV ps 8 = y) := hy
  clear hz hx hy
  clear hl
  obtain ⟨a0, k0, e0, _⟩ := h.h.r.shape
  obtain ⟨a1, k1, e1, _⟩ := h.h.c.shape
  obtain ⟨a2, k2, e2, _⟩ := h.h.i.shape
  obtain ⟨a3, k3, e3, _⟩ := h.h.o.shape
  obtain ⟨a4, k4, e4, _⟩ := h.pl.shape
  obtain ⟨a5, k5, e5, _, l5, _⟩ := h.mm.shape
  clear h
  subst e0 e1 e2 e3 e4 e5
  generalize hn0 : H.regs.length = n0 at *
  generalize hn1 : H.csr.length = n1 at *
  generalize hn2 : H.inn.length = n2 at *
  generalize hn3 : H.out.length = n3 at *
  obtain ⟨n4, hn4⟩ : ∃ n, ps.length = n := ⟨_, rfl⟩
  rw [hn4] at HS ⊢
  obtain ⟨n5, hn5⟩ : ∃ n, zs.length = n := ⟨_, rfl⟩
  have LZ : Hid (zs.length = n5) := hn5
  rw [hn5] at HS ⊢
  have l5i : (n5 : Int) ≤ 9223372036854775807 := by have := HS.out.mm.lens; unfold maxLen at this; omega
  clear hn0 hn1 hn2 hn3 hn4 hn5 l5
  generalize hW : w.alloc (.cells #[.slice a0 n0 k0, .int .i64 H.pc, .slice a1 n1 k1, .bool H.halted, .bool H.waiting, .bool H.rung, .int .i64 H.done, .slice a2 n2 k2, .slice a3 n3 k3, .slice a4 n4 k4, .slice a5 n5 k5] 32) = W
  have B0 : Hid (Below w.heap.size w W) := by show Below _ _ _; rw [← hW]; exact al (Below.refl _ _) _
  obtain ⟨s, hS⟩ : ∃ s, w.heap.size = s := ⟨_, rfl⟩
  have Q : Hid (Vb W s #[.slice a0 n0 k0, .int .i64 H.pc, .slice a1 n1 k1, .bool H.halted, .bool H.waiting, .bool H.rung, .int .i64 H.done, .slice a2 n2 k2, .slice a3 n3 k3, .slice a4 n4 k4, .slice a5 n5 k5] 32) := by show Vb _ _ _ _; rw [← hW, ← hS]; exact Vb.new _ _ _
  have q0 := Q.out.cell 0 rfl
  have q1 := Q.out.cell 1 rfl
  have q2 := Q.out.cell 2 rfl
  have q3 := Q.out.cell 3 rfl
  have q4 := Q.out.cell 4 rfl
  have q5 := Q.out.cell 5 rfl
  have q6 := Q.out.cell 6 rfl
  have q7 := Q.out.cell 7 rfl
  have q8 := Q.out.cell 8 rfl
  go_enter Tryz.func24, Tryz.ntmps24
  go_wp2_with fail
  clear hW hS q0 q1 q2 q3 q4 q5 q6 q7 q8
  refine (i_fault _ _ _ _ H _ _ (HS.out.h.keep B0.out)).mono ?_
  rw [HX.out]
  rintro e w1 ⟨rfl, b1⟩
  have B1 : Hid (Below w.heap.size w w1) := on B0.out b1
  have Q1 : Hid (Vb w1 s #[.slice a0 n0 k0, .int .i64 H.pc, .slice a1 n1 k1, .bool H.halted, .bool H.waiting, .bool H.rung, .int .i64 H.done, .slice a2 n2 k2, .slice a3 n3 k3, .slice a4 n4 k4, .slice a5 n5 k5] 32) := Q.out.keep b1
  clear b1 Q B0
  by_cases h0 : x = 0
  · have X0 : Hid (x = 0) := h0
    have hx0 : (x != 0) = false := by simp [h0]
    clear h0
    have q9 := Q1.out.cell 9 rfl
    go_wp2_with fail
    clear q9
    refine (impl_fault _ ps 8 _ _ (HS.out.pl.keep B1.out) HL.out).mono ?_
    rw [HY.out]
    rintro e w2 ⟨rfl, b2⟩
    have B2 : Hid (Below w.heap.size w w2) := on B1.out b2
    have Q2 : Hid (Vb w2 s #[.slice a0 n0 k0, .int .i64 H.pc, .slice a1 n1 k1, .bool H.halted, .bool H.waiting, .bool H.rung, .int .i64 H.done, .slice a2 n2 k2, .slice a3 n3 k3, .slice a4 n4 k4, .slice a5 n5 k5] 32) := Q1.out.keep b2
    clear b2 Q1
    by_cases h1 : y = 0
    · have Y0 : Hid (y = 0) := h1
      have hy0 : (y != 0) = false := by simp [h1]
      clear h1
      have q10 := Q2.out.cell 10 rfl
      go_wp2_with fail
      clear q10
      refine (i_whole8 _ zs _ _ (HS.out.mm.keep B2.out)).mono ?_
      rintro e y2 ⟨rfl, hy2⟩
      rw [hy2]
      clear hy2 y2
      cases hw : wholeS zs with
      | true =>
        go_wp2_with fail
        go_ret
        exact ⟨by rw [Z.out, if_pos X0.out, if_pos Y0.out, hw]; rfl, B2.out⟩
      | false =>
        go_wp2_with fail
        go_ret
        exact ⟨by rw [Z.out, if_pos X0.out, if_pos Y0.out, hw]; rfl, B2.out⟩
    · have Y0 : Hid (¬ y = 0) := h1
      have hy0 : (y != 0) = true := by simp [h1]
      clear h1
      go_wp2_with fail
      go_ret
      exact ⟨by rw [Z.out, if_pos X0.out, if_neg Y0.out]; rfl, B2.out⟩
  · have X0 : Hid (¬ x = 0) := h0
    have hx0 : (x != 0) = true := by simp [h0]
    clear h0
    go_wp2_with fail
    go_ret
    exact ⟨by rw [Z.out, if_neg X0.out]; rfl, B1.out⟩
set_option maxRecDepth 20000 in
set_option maxHeartbeats 8000000 in
theorem s_soloFault (r c i o l m : Value) (H : Ht) (ps : List (Int × Int)) (zs : List Int) (b : Nat) (w : World) (h : Sm w b r c i o l m H ps zs) (hl : ps.length ≤ 1048576) :
    Calls Tryz.prog 16 #[.agg #[r, .int .i64 H.pc, c, .bool H.halted, .bool H.waiting, .bool H.rung, .int .i64 H.done, i, o, l, m]] w fun e w' => e = .returned (.int .i64 (sfV H ps zs)) ∧ Below w.heap.size w w' := by
  have HS : Hid (Sm w b r c i o l m H ps zs) := h
  have HL : Hid (ps.length ≤ 1048576) := hl
  obtain ⟨z, hz⟩ : ∃ z, sfV H ps zs = z := ⟨_, rfl⟩
  obtain ⟨x, hx⟩ : ∃ x, hfV H = x := ⟨_, rfl⟩
  obtain ⟨y, hy⟩ : ∃ y, pgsV ps 8 = y := ⟨_, rfl⟩
  rw [hz]
  have Z : Hid (z = if x = 0 then (if y = 0 then (if wholeS zs = true then 0 else 1) else y) else x) := by show _ = _; rw [← hz, ← hx, ← hy]; rfl
  have HX : Hid (hfV H = x) := hx
  have HY : Hid (pgsV ps 8 = y) := hy
  clear hz hx hy
  obtain ⟨mv, hmv⟩ : ∃ v, memV zs = v := ⟨_, rfl⟩
  have HMV : Hid (memV zs = mv) := hmv
  clear hl hmv
  obtain ⟨a0, k0, e0, _⟩ := h.h.r.shape
  obtain ⟨a1, k1, e1, _⟩ := h.h.c.shape
  obtain ⟨a2, k2, e2, _⟩ := h.h.i.shape
  obtain ⟨a3, k3, e3, _⟩ := h.h.o.shape
  obtain ⟨a4, k4, e4, _⟩ := h.pl.shape
  obtain ⟨a5, k5, e5, _, l5, _⟩ := h.mm.shape
  clear h
  subst e0 e1 e2 e3 e4 e5
  generalize hn0 : H.regs.length = n0 at *
  generalize hn1 : H.csr.length = n1 at *
  generalize hn2 : H.inn.length = n2 at *
  generalize hn3 : H.out.length = n3 at *
  obtain ⟨n4, hn4⟩ : ∃ n, ps.length = n := ⟨_, rfl⟩
  rw [hn4] at HS ⊢
  obtain ⟨n5, hn5⟩ : ∃ n, zs.length = n := ⟨_, rfl⟩
  have LZ : Hid (zs.length = n5) := hn5
  rw [hn5] at HS ⊢
  have l5i : (n5 : Int) ≤ 9223372036854775807 := by have := HS.out.mm.lens; unfold maxLen at this; omega
  clear hn0 hn1 hn2 hn3 hn4 hn5 l5
  generalize hW : w.alloc (.cells #[.slice a0 n0 k0, .int .i64 H.pc, .slice a1 n1 k1, .bool H.halted, .bool H.waiting, .bool H.rung, .int .i64 H.done, .slice a2 n2 k2, .slice a3 n3 k3, .slice a4 n4 k4, .slice a5 n5 k5] 32) = W
  have B0 : Hid (Below w.heap.size w W) := by show Below _ _ _; rw [← hW]; exact al (Below.refl _ _) _
  obtain ⟨s, hS⟩ : ∃ s, w.heap.size = s := ⟨_, rfl⟩
  have Q : Hid (Vb W s #[.slice a0 n0 k0, .int .i64 H.pc, .slice a1 n1 k1, .bool H.halted, .bool H.waiting, .bool H.rung, .int .i64 H.done, .slice a2 n2 k2, .slice a3 n3 k3, .slice a4 n4 k4, .slice a5 n5 k5] 32) := by show Vb _ _ _ _; rw [← hW, ← hS]; exact Vb.new _ _ _
  go_enter Tryz.func16, Tryz.ntmps16
  go_wp2_with fail
  clear hW hS
  refine (s_faultC s _ _ _ _ H _ _ (HS.out.h.keep B0.out) (Q.out.cell 0 rfl) (Q.out.cell 1 rfl) (Q.out.cell 2 rfl) (Q.out.cell 6 rfl) (Q.out.cell 7 rfl) (Q.out.cell 8 rfl)).mono ?_
  rw [HX.out]
  rintro e y1 ⟨rfl, hy1⟩
  rw [hy1]
  clear hy1 y1
  by_cases h0 : x = 0
  · have X0 : Hid (x = 0) := h0
    have hx0 : (x != 0) = false := by simp [h0]
    clear h0
    have q9 := Q.out.cell 9 rfl
    go_wp2_with fail
    clear q9
    refine (spec_fault _ ps 8 _ _ (HS.out.pl.keep B0.out) HL.out).mono ?_
    rw [HY.out]
    rintro e y1 ⟨rfl, hy1⟩
    rw [hy1]
    clear hy1 y1
    by_cases h1 : y = 0
    · have Y0 : Hid (y = 0) := h1
      have hy0 : (y != 0) = false := by simp [h1]
      clear h1
      have q10 := Q.out.cell 10 rfl
      have MF := spec_memFault _ zs _ _ (HS.out.mm.keep B0.out)
      rw [HMV.out] at MF
      by_cases h2 : mv = 0
      · have M0 : Hid (mv = 0) := h2
        have hm0 : (mv != 0) = false := by simp [h2]
        clear h2
        by_cases h3 : n5 = 64
        · have N0 : Hid (wholeS zs = true) := by show _ = _; unfold wholeS; rw [LZ.out, HMV.out, h3, M0.out]; rfl
          have h3i : (n5 : Int) = 64 := by omega
          have h3b : ((n5 : Int) != 64) = false := by simp [h3i]
          clear h3
          go_wp2_with (go_at_call 36; refine MF.mono ?_; rintro e y1 ⟨rfl, hy1⟩; rw [hy1]; clear hy1 y1)
          go_ret
          exact ⟨by rw [Z.out, if_pos X0.out, if_pos Y0.out, N0.out]; rfl, B0.out⟩
        · have N0 : Hid (wholeS zs = false) := by show _ = _; unfold wholeS; rw [LZ.out, decide_eq_false h3]; rfl
          have h3i : ¬ (n5 : Int) = 64 := by omega
          have h3b : ((n5 : Int) != 64) = true := by simpa using h3i
          clear h3
          go_wp2_with (go_at_call 36; refine MF.mono ?_; rintro e y1 ⟨rfl, hy1⟩; rw [hy1]; clear hy1 y1)
          go_ret
          exact ⟨by rw [Z.out, if_pos X0.out, if_pos Y0.out, N0.out]; rfl, B0.out⟩
      · have M0 : Hid (wholeS zs = false) := by show _ = _; unfold wholeS; rw [HMV.out, decide_eq_false h2, Bool.and_false]
        have hm0 : (mv != 0) = true := by simp [h2]
        clear h2
        go_wp2_with (go_at_call 36; refine MF.mono ?_; rintro e y1 ⟨rfl, hy1⟩; rw [hy1]; clear hy1 y1)
        go_ret
        exact ⟨by rw [Z.out, if_pos X0.out, if_pos Y0.out, M0.out]; rfl, B0.out⟩
    · have Y0 : Hid (¬ y = 0) := h1
      have hy0 : (y != 0) = true := by simp [h1]
      clear h1
      go_wp2_with fail
      go_ret
      exact ⟨by rw [Z.out, if_pos X0.out, if_neg Y0.out]; rfl, B0.out⟩
  · have X0 : Hid (¬ x = 0) := h0
    have hx0 : (x != 0) = true := by simp [h0]
    clear h0
    go_wp2_with fail
    go_ret
    exact ⟨by rw [Z.out, if_neg X0.out]; rfl, B0.out⟩
end Go.Proofs.YtimcoobhakfnaaaGreatDoor
namespace Go.Proofs.YtimcoobhakfnaaaGreatDoor
open Go.RowKit
set_option linter.unusedVariables false

/-- A lonely machine, read alone. -/
structure Sq (w : World) (base : Nat) (r c i o l m : Value) (H : Ht) (ps : List (Int × Int)) (zs : List Int) : Prop where
  h : Hr w r c i o H
  pl : Prs 61 w base l ps
  mm : Rv w m zs
theorem Sq.keep {w w' : World} {base : Nat} {r c i o l m : Value} {H : Ht} {ps : List (Int × Int)} {zs : List Int} (s : Sq w base r c i o l m H ps zs) (b : Below w.heap.size w w') : Sq w' base r c i o l m H ps zs :=
  ⟨s.h.stay b, s.pl.keep b, s.mm.stay b⟩
theorem Sm.sr {w : World} {base : Nat} {r c i o l m : Value} {H : Ht} {ps : List (Int × Int)} {zs : List Int} (s : Sm w base r c i o l m H ps zs) : Sq w base r c i o l m H ps zs := ⟨s.h.hr, s.pl, s.mm.rv⟩
set_option maxRecDepth 20000 in
set_option maxHeartbeats 4000000 in
theorem eqr_solo (r c i o l m r' c' i' o' l' m' : Value) (H : Ht) (ps : List (Int × Int)) (zs : List Int) (b b' : Nat) (w : World) (h : Sq w b r c i o l m H ps zs) (k : Sq w b' r' c' i' o' l' m' H ps zs) :
    Calls Tryz.prog 9 #[.agg #[r, .int .i64 H.pc, c, .bool H.halted, .bool H.waiting, .bool H.rung, .int .i64 H.done, i, o, l, m], .agg #[r', .int .i64 H.pc, c', .bool H.halted, .bool H.waiting, .bool H.rung, .int .i64 H.done, i', o', l', m']] w fun e w' => e = .returned (.bool true) ∧ Below w.heap.size w w' := by
  have HS : Hid (Sq w b r c i o l m H ps zs) := h
  have KS : Hid (Sq w b' r' c' i' o' l' m' H ps zs) := k
  obtain ⟨ha0, hk0, eh0, _⟩ := h.h.r
  obtain ⟨ha1, hk1, eh1, _⟩ := h.h.c
  obtain ⟨ha2, hk2, eh2, _⟩ := h.h.i
  obtain ⟨ha3, hk3, eh3, _⟩ := h.h.o
  obtain ⟨ha4, hk4, eh4, _⟩ := h.pl.shape
  obtain ⟨ha5, hk5, eh5, _⟩ := h.mm
  obtain ⟨ka0, kk0, ek0, _⟩ := k.h.r
  obtain ⟨ka1, kk1, ek1, _⟩ := k.h.c
  obtain ⟨ka2, kk2, ek2, _⟩ := k.h.i
  obtain ⟨ka3, kk3, ek3, _⟩ := k.h.o
  obtain ⟨ka4, kk4, ek4, _⟩ := k.pl.shape
  obtain ⟨ka5, kk5, ek5, _⟩ := k.mm
  clear h k
  subst eh0 ek0 eh1 ek1 eh2 ek2 eh3 ek3 eh4 ek4 eh5 ek5
  generalize hn0 : H.regs.length = n0 at *
  generalize hn1 : H.csr.length = n1 at *
  generalize hn2 : H.inn.length = n2 at *
  generalize hn3 : H.out.length = n3 at *
  generalize hn4 : ps.length = n4 at *
  generalize hn5 : zs.length = n5 at *
  clear hn0 hn1 hn2 hn3 hn4 hn5
  generalize hW : (w.alloc (.cells #[.slice ha0 n0 hk0, .int .i64 H.pc, .slice ha1 n1 hk1, .bool H.halted, .bool H.waiting, .bool H.rung, .int .i64 H.done, .slice ha2 n2 hk2, .slice ha3 n3 hk3, .slice ha4 n4 hk4, .slice ha5 n5 hk5] 32)).alloc (.cells #[.slice ka0 n0 kk0, .int .i64 H.pc, .slice ka1 n1 kk1, .bool H.halted, .bool H.waiting, .bool H.rung, .int .i64 H.done, .slice ka2 n2 kk2, .slice ka3 n3 kk3, .slice ka4 n4 kk4, .slice ka5 n5 kk5] 32) = W
  have B0 : Hid (Below w.heap.size w W) := by show Below _ _ _; rw [← hW]; exact al (al (Below.refl _ _) _) _
  obtain ⟨s, hS⟩ : ∃ s, w.heap.size = s := ⟨_, rfl⟩
  have z1 : s + 1 = (w.alloc (.cells #[.slice ha0 n0 hk0, .int .i64 H.pc, .slice ha1 n1 hk1, .bool H.halted, .bool H.waiting, .bool H.rung, .int .i64 H.done, .slice ha2 n2 hk2, .slice ha3 n3 hk3, .slice ha4 n4 hk4, .slice ha5 n5 hk5] 32)).heap.size := by rw [← hS]; simp
  have Q : Hid (Vb W s #[.slice ha0 n0 hk0, .int .i64 H.pc, .slice ha1 n1 hk1, .bool H.halted, .bool H.waiting, .bool H.rung, .int .i64 H.done, .slice ha2 n2 hk2, .slice ha3 n3 hk3, .slice ha4 n4 hk4, .slice ha5 n5 hk5] 32) := by show Vb _ _ _ _; rw [← hW, ← hS]; exact (Vb.new _ _ _).push _
  have R : Hid (Vb W (s + 1) #[.slice ka0 n0 kk0, .int .i64 H.pc, .slice ka1 n1 kk1, .bool H.halted, .bool H.waiting, .bool H.rung, .int .i64 H.done, .slice ka2 n2 kk2, .slice ka3 n3 kk3, .slice ka4 n4 kk4, .slice ka5 n5 kk5] 32) := by show Vb _ _ _ _; rw [← hW, z1]; exact Vb.new _ _ _
  clear z1
  have q0 := Q.out.cell 0 rfl
  have q1 := Q.out.cell 1 rfl
  have q2 := Q.out.cell 2 rfl
  have q3 := Q.out.cell 3 rfl
  have q4 := Q.out.cell 4 rfl
  have q5 := Q.out.cell 5 rfl
  have q6 := Q.out.cell 6 rfl
  have q7 := Q.out.cell 7 rfl
  have q8 := Q.out.cell 8 rfl
  have p0 := R.out.cell 0 rfl
  have p1 := R.out.cell 1 rfl
  have p2 := R.out.cell 2 rfl
  have p3 := R.out.cell 3 rfl
  have p4 := R.out.cell 4 rfl
  have p5 := R.out.cell 5 rfl
  have p6 := R.out.cell 6 rfl
  have p7 := R.out.cell 7 rfl
  have p8 := R.out.cell 8 rfl
  go_enter Tryz.func9, Tryz.ntmps9
  go_wp2_with fail
  clear hW hS q0 q1 q2 q3 q4 q5 q6 q7 q8 p0 p1 p2 p3 p4 p5 p6 p7 p8
  refine (eqr_hart _ _ _ _ _ _ _ _ H _ (HS.out.h.stay B0.out) (KS.out.h.stay B0.out)).mono ?_
  rintro e w1 ⟨rfl, b1⟩
  have B1 : Hid (Below w.heap.size w w1) := on B0.out b1
  have Q1 := Q.out.keep b1
  have R1 := R.out.keep b1
  have q9 := Q1.cell 9 rfl
  have p9 := R1.cell 9 rfl
  have QR : Hid (_ ∧ _) := And.intro Q1 R1
  clear b1 Q1 R1 Q R
  go_wp2_with fail
  clear q9 p9
  refine (eq_pages _ _ ps _ _ _ (HS.out.pl.keep B1.out) (KS.out.pl.keep B1.out)).mono ?_
  rintro e w2 ⟨rfl, b2⟩
  have B2 : Hid (Below w.heap.size w w2) := on B1.out b2
  have q10 := (QR.out.1.keep b2).cell 10 rfl
  have p10 := (QR.out.2.keep b2).cell 10 rfl
  clear b2 QR
  go_wp2_with fail
  clear q10 p10
  refine (eq_rn _ _ zs _ (HS.out.mm.stay B2.out) (KS.out.mm.stay B2.out)).mono ?_
  rintro e w3 ⟨rfl, b3⟩
  have B3 : Hid (Below w.heap.size w w3) := on B2.out b3
  clear b3
  go_wp2_with fail
  go_ret
  exact ⟨rfl, B3.out⟩
set_option maxRecDepth 20000 in
set_option maxHeartbeats 4000000 in
theorem eq_sres (x : Int) (r c i o l m r' c' i' o' l' m' : Value) (H : Ht) (ps : List (Int × Int)) (zs : List Int) (b b' : Nat) (w : World) (h : Sq w b r c i o l m H ps zs) (k : Sq w b' r' c' i' o' l' m' H ps zs) :
    Calls Tryz.prog 8 #[.agg #[.int .i64 x, r, .int .i64 H.pc, c, .bool H.halted, .bool H.waiting, .bool H.rung, .int .i64 H.done, i, o, l, m], .agg #[.int .i64 x, r', .int .i64 H.pc, c', .bool H.halted, .bool H.waiting, .bool H.rung, .int .i64 H.done, i', o', l', m']] w fun e w' => e = .returned (.bool true) ∧ Below w.heap.size w w' := by
  have HM : Hid (Sq w b r c i o l m H ps zs) := h
  have KM : Hid (Sq w b' r' c' i' o' l' m' H ps zs) := k
  obtain ⟨ha0, hk0, rfl, _⟩ := h.h.r
  obtain ⟨ha1, hk1, rfl, _⟩ := h.h.c
  obtain ⟨ha2, hk2, rfl, _⟩ := h.h.i
  obtain ⟨ha3, hk3, rfl, _⟩ := h.h.o
  obtain ⟨ha4, hk4, rfl, _⟩ := h.pl.shape
  obtain ⟨ha5, hk5, rfl, _⟩ := h.mm
  obtain ⟨ka0, kk0, rfl, _⟩ := k.h.r
  obtain ⟨ka1, kk1, rfl, _⟩ := k.h.c
  obtain ⟨ka2, kk2, rfl, _⟩ := k.h.i
  obtain ⟨ka3, kk3, rfl, _⟩ := k.h.o
  obtain ⟨ka4, kk4, rfl, _⟩ := k.pl.shape
  obtain ⟨ka5, kk5, rfl, _⟩ := k.mm
  clear h k
  generalize H.regs.length = n0 at *
  generalize H.csr.length = n1 at *
  generalize H.inn.length = n2 at *
  generalize H.out.length = n3 at *
  generalize ps.length = n4 at *
  generalize zs.length = n5 at *
  go_enter Tryz.func8, Tryz.ntmps8
  go_wp2_with fail
  refine (eqr_solo _ _ _ _ _ _ _ _ _ _ _ _ H ps zs _ _ _ (HM.out.keep (al (al (Below.refl _ _) _) _)) (KM.out.keep (al (al (Below.refl _ _) _) _))).mono ?_
  rintro e w1 ⟨rfl, b1⟩
  go_wp2_with fail
  go_ret
  exact ⟨rfl, on (al (al (Below.refl _ _) _) _) b1⟩
set_option maxRecDepth 20000 in
set_option maxHeartbeats 4000000 in
theorem mark_sres (x : Int) (r c i o l m : Value) (H : Ht) (ps : List (Int × Int)) (zs : List Int) (k : Int) (b : Nat) (w : World) (h : Sm w b r c i o l m H ps zs) (hk : 0 ≤ k) (hz : k + totS H ps zs ≤ 4611686018427387904) :
    Calls Tryz.prog 11 #[.agg #[.int .i64 x, r, .int .i64 H.pc, c, .bool H.halted, .bool H.waiting, .bool H.rung, .int .i64 H.done, i, o, l, m], .int .i64 k] w fun e w' => e = .returned (.int .i64 (k + totS H ps zs)) ∧ Sm w' b r c i o l m (mkH k H) (pmarks (k + totH H) ps.length) (marks (k + totH H + (2 * ps.length : Nat)) zs.length) ∧ Mq (OwnS r c i o l m) w w' := by
  have HM : Hid (Sm w b r c i o l m H ps zs) := h
  have HK : Hid (0 ≤ k ∧ k + totS H ps zs ≤ 4611686018427387904) := ⟨hk, hz⟩
  obtain ⟨ha0, hk0, rfl, _⟩ := h.h.r.shape
  obtain ⟨ha1, hk1, rfl, _⟩ := h.h.c.shape
  obtain ⟨ha2, hk2, rfl, _⟩ := h.h.i.shape
  obtain ⟨ha3, hk3, rfl, _⟩ := h.h.o.shape
  obtain ⟨ha4, hk4, rfl, _⟩ := h.pl.shape
  obtain ⟨ha5, hk5, rfl, _⟩ := h.mm.shape
  clear h hk hz
  obtain ⟨T, hT⟩ : ∃ T : Int, k + totS H ps zs = T := ⟨_, rfl⟩
  obtain ⟨n4, hn4⟩ : ∃ n, ps.length = n := ⟨_, rfl⟩
  obtain ⟨n5, hn5⟩ : ∃ n, zs.length = n := ⟨_, rfl⟩
  have L4 : Hid (ps.length = n4) := hn4
  have L5 : Hid (zs.length = n5) := hn5
  rw [hn4, hn5] at HM ⊢
  rw [hT]
  have HT : Hid (k + totS H ps zs = T) := hT
  clear hT hn4 hn5
  generalize H.regs.length = n0 at *
  generalize H.csr.length = n1 at *
  generalize H.inn.length = n2 at *
  generalize H.out.length = n3 at *
  go_enter Tryz.func11, Tryz.ntmps11
  go_wp2_with fail
  refine (mark_solo _ _ _ _ _ _ H ps zs _ _ _ (HM.out.keep (al (Below.refl _ _) _)) HK.out.1 HK.out.2).mono ?_
  rw [HT.out, L4.out, L5.out]
  rintro e w1 ⟨rfl, m1, g1⟩
  have N1 : Hid (Sm w1 b _ _ _ _ _ _ _ _ _) := m1
  have G1 : Hid (Mq _ _ _) := Mq.pre g1
  clear m1 g1
  go_wp2_with fail
  go_ret
  exact ⟨rfl, N1.out, G1.out⟩
set_option maxRecDepth 20000 in
set_option maxHeartbeats 4000000 in
theorem held_sres (x : Int) (r c i o l m : Value) (H : Ht) (np nz : Nat) (k : Int) (b : Nat) (w : World) (h : Hm w b r c i o (mkH k H)) (hl : Prs 61 w b l (pmarks (k + totH H) np)) (hm : Nums w b m (marks (k + totH H + (2 * np : Nat)) nz)) (hk : 0 ≤ k) (hz : k + totH H + (2 * np : Nat) + nz ≤ 4611686018427387904) :
    Calls Tryz.prog 12 #[.agg #[.int .i64 x, r, .int .i64 H.pc, c, .bool H.halted, .bool H.waiting, .bool H.rung, .int .i64 H.done, i, o, l, m], .int .i64 k] w fun e w' => e = .returned (.int .i64 (k + totH H + (2 * np : Nat) + nz)) ∧ Below w.heap.size w w' := by
  have HM : Hid (Hm w b r c i o (mkH k H) ∧ Prs 61 w b l (pmarks (k + totH H) np) ∧ Nums w b m (marks (k + totH H + (2 * np : Nat)) nz)) := ⟨h, hl, hm⟩
  have HK : Hid (0 ≤ k ∧ k + totH H + (2 * np : Nat) + nz ≤ 4611686018427387904) := ⟨hk, hz⟩
  obtain ⟨a0, k0, rfl, _⟩ := h.r.shape
  obtain ⟨a1, k1, rfl, _⟩ := h.c.shape
  obtain ⟨a2, k2, rfl, _⟩ := h.i.shape
  obtain ⟨a3, k3, rfl, _⟩ := h.o.shape
  obtain ⟨a4, k4, rfl, _⟩ := hl.shape
  obtain ⟨a5, k5, rfl, _⟩ := hm.shape
  clear h hl hm
  obtain ⟨T, hT⟩ : ∃ T : Int, k + totH H + (2 * np : Nat) + nz = T := ⟨_, rfl⟩
  have hp : 0 ≤ T := by omega
  rw [hT]
  have HT : Hid (k + totH H + (2 * np : Nat) + nz = T) := hT
  clear hT hk hz
  generalize (mkH k H).regs.length = n0 at *
  generalize (mkH k H).csr.length = n1 at *
  generalize (mkH k H).inn.length = n2 at *
  generalize (mkH k H).out.length = n3 at *
  generalize (pmarks (k + totH H) np).length = n4 at *
  generalize (marks (k + totH H + (2 * np : Nat)) nz).length = n5 at *
  go_enter Tryz.func12, Tryz.ntmps12
  go_wp2_with fail
  refine (held_solo _ _ _ _ _ _ H np nz _ _ _ (HM.out.1.keep (al (Below.refl _ _) _)) (HM.out.2.1.keep (al (Below.refl _ _) _)) (HM.out.2.2.keep (al (Below.refl _ _) _)) HK.out.1 HK.out.2).mono ?_
  rintro e w1 ⟨rfl, b1⟩
  rw [HT.out]
  go_wp2_with fail
  go_ret
  exact ⟨rfl, on (al (Below.refl _ _) _) b1⟩
end Go.Proofs.YtimcoobhakfnaaaGreatDoor
namespace Go.Proofs.YtimcoobhakfnaaaGreatDoor
open Go.RowKit
set_option linter.unusedVariables false

/-- append of pages to a slice of pages of the call's own, as a step of a region. -/
theorem step_appp {ops : Array Oper} {o : Oper} {act : Act} {w : World} {K : Act → World → Prop} {Q : Exit → Act → World → Prop} {E : Prop} (hgd : o.guard = none) (s x : Operand)
    (ho : o.op = .call { callee := .builtin .append, args := #[s, x], argTypes := #[30, 30] }) (base : Nat) (v : Value) (zs : List (Int × Int)) (hs : act.eval s = v) (hN : Prs 61 w base v zs)
    (g m c b : Nat) (ys : List (Int × Int)) (hx : act.eval x = .slice (some ⟨g, 0, none⟩) m c) (hR : Prs 61 w b (.slice (some ⟨g, 0, none⟩) m c) ys) (hm : m = ys.length)
    (hlen : zs.length + m ≤ 1000000000) (hbase : base ≤ w.heap.size)
    (h : ∀ v' w', Hid (Prs 61 w' base v' (zs ++ ys)) → w.grownBy w' v.ownBlock → K (act.put o.dst v') w') :
    if Region.wanted o (yielded ops act.tmps) = true then Oper.wp Tryz.prog o act w K Q else E := by
  have hw : Region.wanted o (yielded ops act.tmps) = true := by simp [Region.wanted, hgd]
  rw [if_pos hw]
  obtain ⟨i, hi, hz0, hz1, hz2⟩ := info_parts info_page
  refine wp_append_own w s x 30 ho base 61 i _ 2 16 Tryz.underlying30 hi hz0 hz1 hz2 rfl (by decide) v zs.length _ hs hN ⟨g, 0, none⟩ m c (flat ys) hx (by rw [flat_length, hm]) ?_ (flat_one ys) (by unfold maxLen; omega) (by omega) hbase ?_
  · intro j u hj
    have hjl : j < m * 2 := by have := (List.getElem?_eq_some_iff.1 hj).1; rw [flat_length] at this; omega
    subst hm
    rw [show (⟨g, 0, none⟩ : Addr).add j = ⟨g, j, none⟩ by rw [Addr.add_lit]; simp, World.ownsRow.cellAt hR j (by omega)]
    exact hj
  · intro v' w' hown hgrow _
    refine h v' w' ?_ hgrow
    show Prs _ _ _ _ _
    unfold Prs
    rw [List.length_append, flat_append, ← hm]
    exact hown
/-- The worlds behind W in which block q alone may have turned; its 11 cells are there. -/
def Sl (W : World) (q : Nat) (w' : World) : Prop := Mq (fun k => k = q) W w' ∧ w'.there q 0 11
theorem Sl.step {W w w' : World} {q : Nat} (h : Sl W q w) (hq : q < W.heap.size) (b : Below w.heap.size w w') : Sl W q w' :=
  ⟨h.1.trans (Mq.of (below_grown b none) fun k e => by cases e), there_below h.2 (Nat.lt_of_lt_of_le hq h.1.size) b⟩
theorem Sl.set {W w : World} {q : Nat} (h : Sl W q w) (vs : List Value) : Sl W q (w.setCells q 0 vs) := ⟨h.1.trans (mq_cells q vs w 0), World.there_setCells h.2 _ _ _⟩
theorem row_hoS {e : TypeId} {w w' : World} {base : Nat} {v : Value} {rs : List (Int × Int)} (h : Prs e w base v rs) (H : Ho base w w') : Prs e w' base v rs := by
  obtain ⟨h1, h2 | ⟨g, cap, cur, hv, hg, hr, rest⟩⟩ := h
  · exact ⟨h1, .inl h2⟩
  · refine ⟨h1, .inr ⟨g, cap, cur, hv, hg, ?_, rest⟩⟩
    rw [H.block g hg ((Array.getElem?_eq_some_iff.1 hr).1)]
    exact hr
theorem Sl.grow {W w w' : World} {q : Nat} {row : Option Nat} (h : Sl W q w) (hq : q < W.heap.size) (g : w.grownBy w' row) (hr : ∀ k, row = some k → W.heap.size ≤ k ∧ k < w.heap.size) : Sl W q w' := by
  refine ⟨⟨?_, ?_, ?_, Nat.le_trans h.1.size g.size, fun k hk hn => ?_⟩, fun j hj => ?_⟩
  · exact g.os.trans h.1.os
  · exact g.tape.trans h.1.tape
  · exact g.output.trans h.1.output
  · rw [g.block k (Nat.lt_of_lt_of_le hk h.1.size) (fun e => by have := (hr k e.symm).1; omega)]
    exact h.1.block k hk hn
  · obtain ⟨h1, h2⟩ := h.2 j hj
    have hl : q < w.heap.size := Nat.lt_of_lt_of_le hq h.1.size
    have hne : some q ≠ row := fun e => by have := (hr q e.symm).1; omega
    refine ⟨?_, ?_⟩
    · rw [show w'.cell? ⟨q, 0 + j, none⟩ = w.cell? ⟨q, 0 + j, none⟩ from by unfold World.cell?; rw [show w'.heap[(⟨q, 0 + j, none⟩ : Addr).block]? = w.heap[(⟨q, 0 + j, none⟩ : Addr).block]? from g.block q hl hne]]
      exact h1
    · rw [show w'.frozen? ⟨q, 0 + j, none⟩ = w.frozen? ⟨q, 0 + j, none⟩ from World.frozen?_of_block (w := w) (g.block q hl hne)]
      exact h2
theorem own_someS {g n c : Nat} {k : Nat} (e : some k = (Value.slice (some ⟨g, 0, none⟩) n c).ownBlock) : k = g := by have : k = g := (by simpa [Value.ownBlock] using e); omega
theorem hm_grown {w w' : World} {base : Nat} {r c i o : Value} {H : Ht} {row : Option Nat} (h : Hm w base r c i o H) (g : w.grownBy w' row) (hn : ∀ k, Own4 r c i o k → some k ≠ row) : Hm w' base r c i o H := by
  have one : ∀ {v : Value} {zs : List Int}, Nums w base v zs → (∀ k, v.ownBlock = some k → some k ≠ row) → Nums w' base v zs := fun {v zs} k hk => by
    refine World.ownsRow.kept k g ?_
    cases hv : v.ownBlock with
    | none => exact .inl rfl
    | some b => exact .inr (hk b hv)
  exact ⟨one h.r fun k e => hn k (.inl e), one h.c fun k e => hn k (.inr (.inl e)), one h.i fun k e => hn k (.inr (.inr (.inl e))), one h.o fun k e => hn k (.inr (.inr (.inr e)))⟩
set_option maxRecDepth 20000 in
set_option maxHeartbeats 8000000 in
theorem s_copy11 (a0 a1 a2 a3 : Option Addr) (n0 k0 n1 k1 n2 k2 n3 k3 : Nat) (H : Ht) (pg pc : Nat) (ps : List (Int × Int)) (gm mc : Nat) (zs : List Int) (b : Nat) (w : World) (h : Sm w b (.slice a0 n0 k0) (.slice a1 n1 k1) (.slice a2 n2 k2) (.slice a3 n3 k3) (.slice (some ⟨pg, 0, none⟩) 8 pc) (.slice (some ⟨gm, 0, none⟩) 64 mc) H ps zs) (hk : Hok H) (h8 : ps.length = 8) (h64 : zs.length = 64) :
    Calls Tryz.prog 18 #[.agg #[.slice a0 n0 k0, .int .i64 H.pc, .slice a1 n1 k1, .bool H.halted, .bool H.waiting, .bool H.rung, .int .i64 H.done, .slice a2 n2 k2, .slice a3 n3 k3, .slice (some ⟨pg, 0, none⟩) 8 pc, .slice (some ⟨gm, 0, none⟩) 64 mc]] w fun e w' => ∃ x0 x1 x2 x3 q0 q1 q2 q3 lp lq mp mq, e = .returned (.agg #[.slice x0 n0 q0, .int .i64 H.pc, .slice x1 n1 q1, .bool H.halted, .bool H.waiting, .bool H.rung, .int .i64 H.done, .slice x2 n2 q2, .slice x3 n3 q3, .slice lp 8 lq, .slice mp 64 mq]) ∧ Sm w' w.heap.size (.slice x0 n0 q0) (.slice x1 n1 q1) (.slice x2 n2 q2) (.slice x3 n3 q3) (.slice lp 8 lq) (.slice mp 64 mq) H ps zs ∧ Below w.heap.size w w' := by
  have HS : Hid (Sm w b (.slice a0 n0 k0) (.slice a1 n1 k1) (.slice a2 n2 k2) (.slice a3 n3 k3) (.slice (some ⟨pg, 0, none⟩) 8 pc) (.slice (some ⟨gm, 0, none⟩) 64 mc) H ps zs) := h
  have HK : Hid (Hok H) := hk
  have HLL : Hid (ps.length = 8 ∧ zs.length = 64) := ⟨h8, h64⟩
  have HN : Hid (H.regs.length = n0 ∧ H.csr.length = n1 ∧ H.inn.length = n2 ∧ H.out.length = n3) := by
    obtain ⟨_, _, e0, _⟩ := h.h.r.shape
    obtain ⟨_, _, e1, _⟩ := h.h.c.shape
    obtain ⟨_, _, e2, _⟩ := h.h.i.shape
    obtain ⟨_, _, e3, _⟩ := h.h.o.shape
    simp at e0 e1 e2 e3
    exact ⟨e0.2.1.symm, e1.2.1.symm, e2.2.1.symm, e3.2.1.symm⟩
  clear h hk h8 h64
  generalize hW : (w.alloc (.cells #[.slice a0 n0 k0, .int .i64 H.pc, .slice a1 n1 k1, .bool H.halted, .bool H.waiting, .bool H.rung, .int .i64 H.done, .slice a2 n2 k2, .slice a3 n3 k3, .slice (some ⟨pg, 0, none⟩) 8 pc, .slice (some ⟨gm, 0, none⟩) 64 mc] 32)).alloc (.cells #[.slice none 0 0, .int .i64 0, .slice none 0 0, .bool false, .bool false, .bool false, .int .i64 0, .slice none 0 0, .slice none 0 0, .slice none 0 0, .slice none 0 0] 32) = W
  have B0 : Hid (Below w.heap.size w W) := by show Below _ _ _; rw [← hW]; exact al (al (Below.refl _ _) _) _
  obtain ⟨s, hS⟩ : ∃ s, w.heap.size = s := ⟨_, rfl⟩
  have HSs : Hid (w.heap.size = s) := hS
  have Q : Hid (Vb W s #[.slice a0 n0 k0, .int .i64 H.pc, .slice a1 n1 k1, .bool H.halted, .bool H.waiting, .bool H.rung, .int .i64 H.done, .slice a2 n2 k2, .slice a3 n3 k3, .slice (some ⟨pg, 0, none⟩) 8 pc, .slice (some ⟨gm, 0, none⟩) 64 mc] 32) := by show Vb _ _ _ _; rw [← hW, ← hS]; exact (Vb.new _ _ _).push _
  have R : Hid (Vb W (s + 1) #[.slice none 0 0, .int .i64 0, .slice none 0 0, .bool false, .bool false, .bool false, .int .i64 0, .slice none 0 0, .slice none 0 0, .slice none 0 0, .slice none 0 0] 32) := by
    have z1 : s + 1 = (w.alloc (.cells #[.slice a0 n0 k0, .int .i64 H.pc, .slice a1 n1 k1, .bool H.halted, .bool H.waiting, .bool H.rung, .int .i64 H.done, .slice a2 n2 k2, .slice a3 n3 k3, .slice (some ⟨pg, 0, none⟩) 8 pc, .slice (some ⟨gm, 0, none⟩) 64 mc] 32)).heap.size := by rw [← hS]; simp
    show Vb _ _ _ _; rw [← hW, z1]; exact Vb.new _ _ _
  have LT : Hid (s + 1 < W.heap.size) := R.out.lt
  have QS : Hid (∀ w', Sl W (s + 1) w' → Vb w' s #[.slice a0 n0 k0, .int .i64 H.pc, .slice a1 n1 k1, .bool H.halted, .bool H.waiting, .bool H.rung, .int .i64 H.done, .slice a2 n2 k2, .slice a3 n3 k3, .slice (some ⟨pg, 0, none⟩) 8 pc, .slice (some ⟨gm, 0, none⟩) 64 mc] 32) := fun w' hs => hs.1.vb Q.out (by omega)
  have S0 : Hid (Sl W (s + 1) W) := ⟨Mq.refl _ _, R.out.there 11 (by decide)⟩
  go_enter Tryz.func18, Tryz.ntmps18
  go_upto_region 1 with fail
  clear hW hS
  have Sv0 : Hid (Sl W (s + 1) W.drew) := S0.out.step LT.out (Below.refl _ _).drew
  have Bv0 : Hid (Below w.heap.size w W.drew) := B0.out.drew
  refine wp_region_held (S := fun w' => Sl W (s + 1) w') (by kernel_rfl) ?_
  change wpAnyH _ _ _ _ _ _ _ _ (World.drew _)
  generalize W.drew = v0 at *
  refine tk (i := 0) (v := .pointer (some ⟨s, 0, none⟩)) rfl (Or.inl ⟨by rfl, fun w' hs => by go_simp⟩) Sv0.out ?_
  change wpAnyH _ _ _ _ _ _ _ (Act.put _ (some 3) _) _
  simp only [Act.put, List.setIfInBounds_toArray, List.set_cons_zero, List.set_cons_succ]
  refine tk (i := 1) (v := .agg #[.slice a0 n0 k0, .int .i64 H.pc, .slice a1 n1 k1, .bool H.halted, .bool H.waiting, .bool H.rung, .int .i64 H.done, .slice a2 n2 k2, .slice a3 n3 k3]) rfl (Or.inl ⟨by rfl, fun w' hs => by have hq := QS.out w' hs; have y0 := hq.cell 0 rfl; have y1 := hq.cell 1 rfl; have y2 := hq.cell 2 rfl; have y3 := hq.cell 3 rfl; have y4 := hq.cell 4 rfl; have y5 := hq.cell 5 rfl; have y6 := hq.cell 6 rfl; have y7 := hq.cell 7 rfl; have y8 := hq.cell 8 rfl; go_simp⟩) Sv0.out ?_
  change wpAnyH _ _ _ _ _ _ _ (Act.put _ (some 4) _) _
  simp only [Act.put, List.setIfInBounds_toArray, List.set_cons_zero, List.set_cons_succ]
  refine tk (i := 4) (v := .pointer (some ⟨s, 9, none⟩)) rfl (Or.inl ⟨by rfl, fun w' hs => by go_simp⟩) Sv0.out ?_
  change wpAnyH _ _ _ _ _ _ _ (Act.put _ (some 7) _) _
  simp only [Act.put, List.setIfInBounds_toArray, List.set_cons_zero, List.set_cons_succ]
  refine tk (i := 5) (v := .slice (some ⟨pg, 0, none⟩) 8 pc) rfl (Or.inl ⟨by rfl, fun w' hs => by have hq := QS.out w' hs; have y9 := hq.cell 9 rfl; go_simp⟩) Sv0.out ?_
  change wpAnyH _ _ _ _ _ _ _ (Act.put _ (some 8) _) _
  simp only [Act.put, List.setIfInBounds_toArray, List.set_cons_zero, List.set_cons_succ]
  refine tk (i := 7) (v := .pointer (some ⟨s, 10, none⟩)) rfl (Or.inl ⟨by rfl, fun w' hs => by go_simp⟩) Sv0.out ?_
  change wpAnyH _ _ _ _ _ _ _ (Act.put _ (some 10) _) _
  simp only [Act.put, List.setIfInBounds_toArray, List.set_cons_zero, List.set_cons_succ]
  refine tk (i := 8) (v := .slice (some ⟨gm, 0, none⟩) 64 mc) rfl (Or.inl ⟨by rfl, fun w' hs => by have hq := QS.out w' hs; have y10 := hq.cell 10 rfl; go_simp⟩) Sv0.out ?_
  change wpAnyH _ _ _ _ _ _ _ (Act.put _ (some 11) _) _
  simp only [Act.put, List.setIfInBounds_toArray, List.set_cons_zero, List.set_cons_succ]
  refine wpAnyH_ready (rs := [2, 3]) (by kernel_rfl) (by simp) ?_
  refine AllReadyH.cons rfl (fun K hK => ?_) (AllReadyH.cons rfl (fun K hK => ?_) AllReadyH.nil)
  · skip
    rw [if_pos (by rfl)]
    go_simp
    refine (s_copyX _ _ _ _ H b _ (HS.out.h.keep Bv0.out) (by have := HK.out.r16; omega) (by have := HK.out.c11; omega) (by have := HK.out.i40; omega) (by have := HK.out.o40; omega)).mono ?_
    rintro e v1 ⟨r2, c2, i2, o2, rfl, m2, A2, b2, -⟩
    obtain ⟨x0, q0, e0, _⟩ := m2.r.shape
    obtain ⟨x1, q1, e1, _⟩ := m2.c.shape
    obtain ⟨x2, q2, e2, _⟩ := m2.i.shape
    obtain ⟨x3, q3, e3, _⟩ := m2.o.shape
    rw [HN.out.1] at e0
    rw [HN.out.2.1] at e1
    rw [HN.out.2.2.1] at e2
    rw [HN.out.2.2.2] at e3
    subst e0 e1 e2 e3
    have Mv1 : Hid (Hm v1 v0.heap.size (.slice x0 n0 q0) (.slice x1 n1 q1) (.slice x2 n2 q2) (.slice x3 n3 q3) H) := m2
    have HA2 : Hid (Ha (.slice x0 n0 q0) (.slice x1 n1 q1) (.slice x2 n2 q2) (.slice x3 n3 q3)) := A2
    have Sv1 : Hid (Sl W (s + 1) v1) := Sv0.out.step LT.out b2
    have Bv1 : Hid (Below w.heap.size w v1) := on Bv0.out b2
    have MM : Hid (Hm v1 W.heap.size (.slice x0 n0 q0) (.slice x1 n1 q1) (.slice x2 n2 q2) (.slice x3 n3 q3) H) := Mv1.out.mono Sv0.out.1.size
    clear m2 A2 b2 Mv1
    refine hK.out _ _ Sv1.out (fun _ => ?_)
    clear hK K
    refine wpAnyH_ready (rs := [3]) (by kernel_rfl) (by simp) ?_
    refine AllReadyH.cons rfl (fun K hK => ?_) AllReadyH.nil
    rw [if_pos (by rfl)]
    go_simp
    have be : Below v1.heap.size v1 (v1.alloc (.cells #[] 61)) := al (Below.refl _ _) _
    have E1 : Hid (Prs 61 (v1.alloc (.cells #[] 61)) W.heap.size (.slice (some ⟨v1.heap.size, 0, none⟩) 0 0) []) := prs_none v1 W.heap.size Sv1.out.1.size
    have Sv2 : Hid (Sl W (s + 1) (v1.alloc (.cells #[] 61))) := Sv1.out.step LT.out be
    have Bv2 : Hid (Below w.heap.size w (v1.alloc (.cells #[] 61))) := on Bv1.out be
    have ME : Hid (Hm (v1.alloc (.cells #[] 61)) W.heap.size (.slice x0 n0 q0) (.slice x1 n1 q1) (.slice x2 n2 q2) (.slice x3 n3 q3) H) := MM.out.keep be
    have NE : Hid (∀ k, Own4 (.slice x0 n0 q0) (.slice x1 n1 q1) (.slice x2 n2 q2) (.slice x3 n3 q3) k → k ≠ v1.heap.size) := fun k e => by have := (MM.out.own k e).2; omega
    clear be MM
    generalize v1.alloc (.cells #[] 61) = v2 at *
    generalize v1.heap.size = ge at *
    refine hK.out _ _ Sv2.out (fun _ => ?_)
    clear hK K
    refine wpAnyH_ready (rs := [6]) (by kernel_rfl) (by simp) ?_
    refine AllReadyH.cons rfl (fun K hK => ?_) AllReadyH.nil
    refine step_appp rfl (.tmp 6) (.tmp 8) rfl W.heap.size _ [] rfl E1.out pg 8 pc b ps rfl (HS.out.pl.keep Bv2.out) HLL.out.1.symm (by simp) (by have := Sv2.out.1.size; exact this) ?_
    intro v' v4 n4 g4
    have N4 : Hid (Prs 61 v4 W.heap.size v' ps) := by have t := n4.out; rwa [List.nil_append] at t
    have S4 : Hid (Sl W (s + 1) v4) := Sv2.out.grow LT.out g4 (fun k e => E1.out.lt k e)
    have B4 : Hid (Below w.heap.size w v4) := Mq.under B0.out S4.out.1 (fun k e => by have := HSs.out; omega)
    have M4 : Hid (Hm v4 W.heap.size (.slice x0 n0 q0) (.slice x1 n1 q1) (.slice x2 n2 q2) (.slice x3 n3 q3) H) := hm_grown ME.out g4 (fun k e f => NE.out k e (own_someS f))
    obtain ⟨lp, lq, e5, _⟩ := N4.out.shape
    rw [HLL.out.1] at e5
    subst e5
    have LV : Hid (v4.heap.size ≤ v4.heap.size) := Nat.le_refl _
    clear n4 g4
    refine hK.out _ _ S4.out (fun _ => ?_)
    clear hK K
    refine wpAnyH_ready (rs := [9]) (by kernel_rfl) (by simp) ?_
    refine AllReadyH.cons rfl (fun K hK => ?_) AllReadyH.nil
    rw [if_pos (by rfl)]
    go_simp
    have CP := spec_copyZ gm mc zs b v4 (by rw [HLL.out.2]; exact HS.out.mm.keep B4.out) (by have := HLL.out.2; omega)
    rw [HLL.out.2] at CP
    refine CP.mono ?_
    clear CP
    rintro e v5 ⟨u5, rfl, m5, b5⟩
    obtain ⟨mp, mq, e6, _⟩ := m5.shape
    rw [HLL.out.2] at e6
    subst e6
    have S5 : Hid (Sl W (s + 1) v5) := S4.out.step LT.out b5
    have M5 : Hid (Hm v5 W.heap.size (.slice x0 n0 q0) (.slice x1 n1 q1) (.slice x2 n2 q2) (.slice x3 n3 q3) H) := M4.out.keep b5
    have N5 : Hid (Prs 61 v5 W.heap.size (.slice lp 8 lq) ps) := N4.out.keep b5
    have Z5 : Hid (Nums v5 v4.heap.size (.slice mp 64 mq) zs) := m5
    have ML : Hid (∀ k, Own4 (.slice x0 n0 q0) (.slice x1 n1 q1) (.slice x2 n2 q2) (.slice x3 n3 q3) k → k < v4.heap.size) := fun k e => (M4.out.own k e).2
    clear m5 b5
    refine hK.out _ _ S5.out (fun _ => ?_)
    clear hK K
    refine tk (i := 10) (v := .agg #[.slice x0 n0 q0, .int .i64 H.pc, .slice x1 n1 q1, .bool H.halted, .bool H.waiting, .bool H.rung, .int .i64 H.done, .slice x2 n2 q2, .slice x3 n3 q3, .slice lp 8 lq, .slice mp 64 mq]) rfl (Or.inl ⟨by rfl, fun w' hs => by go_simp⟩) S5.out ?_
    change wpAnyH _ _ _ _ _ _ _ (Act.put _ (some 13) _) _
    simp only [Act.put, List.setIfInBounds_toArray, List.set_cons_zero, List.set_cons_succ]
    refine wpAnyH_ready (rs := [11]) (by kernel_rfl) (by simp) ?_
    refine AllReadyH.cons rfl (fun K hK => ?_) AllReadyH.nil
    rw [if_pos (by rfl)]
    refine wp_store_mid 32 (.tmp 2) (.tmp 13) rfl (s + 1) 0 #[.slice x0 n0 q0, .int .i64 H.pc, .slice x1 n1 q1, .bool H.halted, .bool H.waiting, .bool H.rung, .int .i64 H.done, .slice x2 n2 q2, .slice x3 n3 q3, .slice lp 8 lq, .slice mp 64 mq] rfl rfl S5.out.2 (by kernel_rfl) (by simp [Value.oneCell']) ?_
    change K (Act.put _ none undef) _
    simp only [Act.put]
    have S6 : Hid (Sl W (s + 1) (v5.setCells (s + 1) 0 #[.slice x0 n0 q0, .int .i64 H.pc, .slice x1 n1 q1, .bool H.halted, .bool H.waiting, .bool H.rung, .int .i64 H.done, .slice x2 n2 q2, .slice x3 n3 q3, .slice lp 8 lq, .slice mp 64 mq].toList)) := S5.out.set _
    have R6 : Hid ((v5.setCells (s + 1) 0 #[.slice x0 n0 q0, .int .i64 H.pc, .slice x1 n1 q1, .bool H.halted, .bool H.waiting, .bool H.rung, .int .i64 H.done, .slice x2 n2 q2, .slice x3 n3 q3, .slice lp 8 lq, .slice mp 64 mq].toList).rangeAt (s + 1) 0 #[.slice x0 n0 q0, .int .i64 H.pc, .slice x1 n1 q1, .bool H.halted, .bool H.waiting, .bool H.rung, .int .i64 H.done, .slice x2 n2 q2, .slice x3 n3 q3, .slice lp 8 lq, .slice mp 64 mq].toList) := World.rangeAt_setCells_same _ _ _ _ S5.out.2
    have Q6 : Hid (Mq (fun k => k = s + 1) v5 (v5.setCells (s + 1) 0 #[.slice x0 n0 q0, .int .i64 H.pc, .slice x1 n1 q1, .bool H.halted, .bool H.waiting, .bool H.rung, .int .i64 H.done, .slice x2 n2 q2, .slice x3 n3 q3, .slice lp 8 lq, .slice mp 64 mq].toList)) := mq_cells (s + 1) _ v5 0
    generalize v5.setCells (s + 1) 0 #[.slice x0 n0 q0, .int .i64 H.pc, .slice x1 n1 q1, .bool H.halted, .bool H.waiting, .bool H.rung, .int .i64 H.done, .slice x2 n2 q2, .slice x3 n3 q3, .slice lp 8 lq, .slice mp 64 mq].toList = v6 at *
    refine hK.out _ _ S6.out (fun _ => ?_)
    clear hK K
    refine wpAnyH_done (by kernel_rfl) ?_ _
    have z1 : w.heap.size ≤ W.heap.size := B0.out.size
    have z2 : W.heap.size ≤ v4.heap.size := S4.out.1.size
    have o6 : Ho W.heap.size v5 v6 := Q6.out.ho fun k e => by have := LT.out; omega
    have F : Sm v6 w.heap.size (.slice x0 n0 q0) (.slice x1 n1 q1) (.slice x2 n2 q2) (.slice x3 n3 q3) (.slice lp 8 lq) (.slice mp 64 mq) H ps zs := by
      have ap : ∀ u, (∀ k, u.ownBlock = some k → k < v4.heap.size) → Apt u (.slice mp 64 mq) := fun u hu => by
        cases e : u.ownBlock with
        | none => exact .inl e
        | some k =>
          refine .inr fun f => ?_
          have h1 := hu k e
          have h2 := (Z5.out.lt k (by rw [← f, e])).1
          omega
      exact ⟨(M5.out.ho o6).mono z1, HA2.out, (row_hoS N5.out o6).mono z1, ((Z5.out.mono z2).ho o6).mono z1, ap _ (fun k e => ML.out k (.inl e)), ap _ (fun k e => ML.out k (.inr (.inl e))), ap _ (fun k e => ML.out k (.inr (.inr (.inl e)))), ap _ (fun k e => ML.out k (.inr (.inr (.inr e))))⟩
    have B6 : Below w.heap.size w v6 := Mq.under B0.out S6.out.1 fun k e => by have := HSs.out; omega
    have LD := run_loadVar_mid (P := Tryz.prog) v6 (s + 1) 0 32 #[.slice x0 n0 q0, .int .i64 H.pc, .slice x1 n1 q1, .bool H.halted, .bool H.waiting, .bool H.rung, .int .i64 H.done, .slice x2 n2 q2, .slice x3 n3 q3, .slice lp 8 lq, .slice mp 64 mq].toList _ R6.out Tryz.underlying32 rfl (by kernel_rfl)
    go_wp2_with fail
    exact bodyPost_ret (v := .agg #[.slice x0 n0 q0, .int .i64 H.pc, .slice x1 n1 q1, .bool H.halted, .bool H.waiting, .bool H.rung, .int .i64 H.done, .slice x2 n2 q2, .slice x3 n3 q3, .slice lp 8 lq, .slice mp 64 mq]) (by simp [results, Tryz.results18, asAddr]; rw [LD]) rfl ⟨_, _, _, _, _, _, _, _, _, _, _, _, rfl, F, B6⟩
  · skip
    rw [if_pos (by rfl)]
    go_simp
    have be : Below v0.heap.size v0 (v0.alloc (.cells #[] 61)) := al (Below.refl _ _) _
    have E1 : Hid (Prs 61 (v0.alloc (.cells #[] 61)) W.heap.size (.slice (some ⟨v0.heap.size, 0, none⟩) 0 0) []) := prs_none v0 W.heap.size Sv0.out.1.size
    have Sv1 : Hid (Sl W (s + 1) (v0.alloc (.cells #[] 61))) := Sv0.out.step LT.out be
    have Bv1 : Hid (Below w.heap.size w (v0.alloc (.cells #[] 61))) := on Bv0.out be
    clear be
    have L1 : Hid (v0.heap.size < (v0.alloc (.cells #[] 61)).heap.size) := by show _ < _; simp
    generalize v0.alloc (.cells #[] 61) = v1 at *
    generalize v0.heap.size = ge at *
    refine hK.out _ _ Sv1.out (fun _ => ?_)
    clear hK K
    refine wpAnyH_ready (rs := [2]) (by kernel_rfl) (by simp) ?_
    refine AllReadyH.cons rfl (fun K hK => ?_) AllReadyH.nil
    rw [if_pos (by rfl)]
    go_simp
    refine (s_copyX _ _ _ _ H b _ (HS.out.h.keep Bv1.out) (by have := HK.out.r16; omega) (by have := HK.out.c11; omega) (by have := HK.out.i40; omega) (by have := HK.out.o40; omega)).mono ?_
    rintro e v2 ⟨r2, c2, i2, o2, rfl, m2, A2, b2, -⟩
    obtain ⟨x0, q0, e0, _⟩ := m2.r.shape
    obtain ⟨x1, q1, e1, _⟩ := m2.c.shape
    obtain ⟨x2, q2, e2, _⟩ := m2.i.shape
    obtain ⟨x3, q3, e3, _⟩ := m2.o.shape
    rw [HN.out.1] at e0
    rw [HN.out.2.1] at e1
    rw [HN.out.2.2.1] at e2
    rw [HN.out.2.2.2] at e3
    subst e0 e1 e2 e3
    have Mv2 : Hid (Hm v2 v1.heap.size (.slice x0 n0 q0) (.slice x1 n1 q1) (.slice x2 n2 q2) (.slice x3 n3 q3) H) := m2
    have HA2 : Hid (Ha (.slice x0 n0 q0) (.slice x1 n1 q1) (.slice x2 n2 q2) (.slice x3 n3 q3)) := A2
    have Sv2 : Hid (Sl W (s + 1) v2) := Sv1.out.step LT.out b2
    have Bv2 : Hid (Below w.heap.size w v2) := on Bv1.out b2
    have ME : Hid (Hm v2 W.heap.size (.slice x0 n0 q0) (.slice x1 n1 q1) (.slice x2 n2 q2) (.slice x3 n3 q3) H) := Mv2.out.mono Sv1.out.1.size
    have NE : Hid (∀ k, Own4 (.slice x0 n0 q0) (.slice x1 n1 q1) (.slice x2 n2 q2) (.slice x3 n3 q3) k → k ≠ ge) := fun k e => by have := (Mv2.out.own k e).1; have := L1.out; omega
    have E2 : Hid (Prs 61 v2 W.heap.size (.slice (some ⟨ge, 0, none⟩) 0 0) []) := E1.out.keep b2
    clear m2 A2 b2 Mv2 E1
    refine hK.out _ _ Sv2.out (fun _ => ?_)
    clear hK K
    refine wpAnyH_ready (rs := [6]) (by kernel_rfl) (by simp) ?_
    refine AllReadyH.cons rfl (fun K hK => ?_) AllReadyH.nil
    refine step_appp rfl (.tmp 6) (.tmp 8) rfl W.heap.size _ [] rfl E2.out pg 8 pc b ps rfl (HS.out.pl.keep Bv2.out) HLL.out.1.symm (by simp) (by have := Sv2.out.1.size; exact this) ?_
    intro v' v4 n4 g4
    have N4 : Hid (Prs 61 v4 W.heap.size v' ps) := by have t := n4.out; rwa [List.nil_append] at t
    have S4 : Hid (Sl W (s + 1) v4) := Sv2.out.grow LT.out g4 (fun k e => E2.out.lt k e)
    have B4 : Hid (Below w.heap.size w v4) := Mq.under B0.out S4.out.1 (fun k e => by have := HSs.out; omega)
    have M4 : Hid (Hm v4 W.heap.size (.slice x0 n0 q0) (.slice x1 n1 q1) (.slice x2 n2 q2) (.slice x3 n3 q3) H) := hm_grown ME.out g4 (fun k e f => NE.out k e (own_someS f))
    obtain ⟨lp, lq, e5, _⟩ := N4.out.shape
    rw [HLL.out.1] at e5
    subst e5
    have LV : Hid (v4.heap.size ≤ v4.heap.size) := Nat.le_refl _
    clear n4 g4
    refine hK.out _ _ S4.out (fun _ => ?_)
    clear hK K
    refine wpAnyH_ready (rs := [9]) (by kernel_rfl) (by simp) ?_
    refine AllReadyH.cons rfl (fun K hK => ?_) AllReadyH.nil
    rw [if_pos (by rfl)]
    go_simp
    have CP := spec_copyZ gm mc zs b v4 (by rw [HLL.out.2]; exact HS.out.mm.keep B4.out) (by have := HLL.out.2; omega)
    rw [HLL.out.2] at CP
    refine CP.mono ?_
    clear CP
    rintro e v5 ⟨u5, rfl, m5, b5⟩
    obtain ⟨mp, mq, e6, _⟩ := m5.shape
    rw [HLL.out.2] at e6
    subst e6
    have S5 : Hid (Sl W (s + 1) v5) := S4.out.step LT.out b5
    have M5 : Hid (Hm v5 W.heap.size (.slice x0 n0 q0) (.slice x1 n1 q1) (.slice x2 n2 q2) (.slice x3 n3 q3) H) := M4.out.keep b5
    have N5 : Hid (Prs 61 v5 W.heap.size (.slice lp 8 lq) ps) := N4.out.keep b5
    have Z5 : Hid (Nums v5 v4.heap.size (.slice mp 64 mq) zs) := m5
    have ML : Hid (∀ k, Own4 (.slice x0 n0 q0) (.slice x1 n1 q1) (.slice x2 n2 q2) (.slice x3 n3 q3) k → k < v4.heap.size) := fun k e => (M4.out.own k e).2
    clear m5 b5
    refine hK.out _ _ S5.out (fun _ => ?_)
    clear hK K
    refine tk (i := 10) (v := .agg #[.slice x0 n0 q0, .int .i64 H.pc, .slice x1 n1 q1, .bool H.halted, .bool H.waiting, .bool H.rung, .int .i64 H.done, .slice x2 n2 q2, .slice x3 n3 q3, .slice lp 8 lq, .slice mp 64 mq]) rfl (Or.inl ⟨by rfl, fun w' hs => by go_simp⟩) S5.out ?_
    change wpAnyH _ _ _ _ _ _ _ (Act.put _ (some 13) _) _
    simp only [Act.put, List.setIfInBounds_toArray, List.set_cons_zero, List.set_cons_succ]
    refine wpAnyH_ready (rs := [11]) (by kernel_rfl) (by simp) ?_
    refine AllReadyH.cons rfl (fun K hK => ?_) AllReadyH.nil
    rw [if_pos (by rfl)]
    refine wp_store_mid 32 (.tmp 2) (.tmp 13) rfl (s + 1) 0 #[.slice x0 n0 q0, .int .i64 H.pc, .slice x1 n1 q1, .bool H.halted, .bool H.waiting, .bool H.rung, .int .i64 H.done, .slice x2 n2 q2, .slice x3 n3 q3, .slice lp 8 lq, .slice mp 64 mq] rfl rfl S5.out.2 (by kernel_rfl) (by simp [Value.oneCell']) ?_
    change K (Act.put _ none undef) _
    simp only [Act.put]
    have S6 : Hid (Sl W (s + 1) (v5.setCells (s + 1) 0 #[.slice x0 n0 q0, .int .i64 H.pc, .slice x1 n1 q1, .bool H.halted, .bool H.waiting, .bool H.rung, .int .i64 H.done, .slice x2 n2 q2, .slice x3 n3 q3, .slice lp 8 lq, .slice mp 64 mq].toList)) := S5.out.set _
    have R6 : Hid ((v5.setCells (s + 1) 0 #[.slice x0 n0 q0, .int .i64 H.pc, .slice x1 n1 q1, .bool H.halted, .bool H.waiting, .bool H.rung, .int .i64 H.done, .slice x2 n2 q2, .slice x3 n3 q3, .slice lp 8 lq, .slice mp 64 mq].toList).rangeAt (s + 1) 0 #[.slice x0 n0 q0, .int .i64 H.pc, .slice x1 n1 q1, .bool H.halted, .bool H.waiting, .bool H.rung, .int .i64 H.done, .slice x2 n2 q2, .slice x3 n3 q3, .slice lp 8 lq, .slice mp 64 mq].toList) := World.rangeAt_setCells_same _ _ _ _ S5.out.2
    have Q6 : Hid (Mq (fun k => k = s + 1) v5 (v5.setCells (s + 1) 0 #[.slice x0 n0 q0, .int .i64 H.pc, .slice x1 n1 q1, .bool H.halted, .bool H.waiting, .bool H.rung, .int .i64 H.done, .slice x2 n2 q2, .slice x3 n3 q3, .slice lp 8 lq, .slice mp 64 mq].toList)) := mq_cells (s + 1) _ v5 0
    generalize v5.setCells (s + 1) 0 #[.slice x0 n0 q0, .int .i64 H.pc, .slice x1 n1 q1, .bool H.halted, .bool H.waiting, .bool H.rung, .int .i64 H.done, .slice x2 n2 q2, .slice x3 n3 q3, .slice lp 8 lq, .slice mp 64 mq].toList = v6 at *
    refine hK.out _ _ S6.out (fun _ => ?_)
    clear hK K
    refine wpAnyH_done (by kernel_rfl) ?_ _
    have z1 : w.heap.size ≤ W.heap.size := B0.out.size
    have z2 : W.heap.size ≤ v4.heap.size := S4.out.1.size
    have o6 : Ho W.heap.size v5 v6 := Q6.out.ho fun k e => by have := LT.out; omega
    have F : Sm v6 w.heap.size (.slice x0 n0 q0) (.slice x1 n1 q1) (.slice x2 n2 q2) (.slice x3 n3 q3) (.slice lp 8 lq) (.slice mp 64 mq) H ps zs := by
      have ap : ∀ u, (∀ k, u.ownBlock = some k → k < v4.heap.size) → Apt u (.slice mp 64 mq) := fun u hu => by
        cases e : u.ownBlock with
        | none => exact .inl e
        | some k =>
          refine .inr fun f => ?_
          have h1 := hu k e
          have h2 := (Z5.out.lt k (by rw [← f, e])).1
          omega
      exact ⟨(M5.out.ho o6).mono z1, HA2.out, (row_hoS N5.out o6).mono z1, ((Z5.out.mono z2).ho o6).mono z1, ap _ (fun k e => ML.out k (.inl e)), ap _ (fun k e => ML.out k (.inr (.inl e))), ap _ (fun k e => ML.out k (.inr (.inr (.inl e)))), ap _ (fun k e => ML.out k (.inr (.inr (.inr e))))⟩
    have B6 : Below w.heap.size w v6 := Mq.under B0.out S6.out.1 fun k e => by have := HSs.out; omega
    have LD := run_loadVar_mid (P := Tryz.prog) v6 (s + 1) 0 32 #[.slice x0 n0 q0, .int .i64 H.pc, .slice x1 n1 q1, .bool H.halted, .bool H.waiting, .bool H.rung, .int .i64 H.done, .slice x2 n2 q2, .slice x3 n3 q3, .slice lp 8 lq, .slice mp 64 mq].toList _ R6.out Tryz.underlying32 rfl (by kernel_rfl)
    go_wp2_with fail
    exact bodyPost_ret (v := .agg #[.slice x0 n0 q0, .int .i64 H.pc, .slice x1 n1 q1, .bool H.halted, .bool H.waiting, .bool H.rung, .int .i64 H.done, .slice x2 n2 q2, .slice x3 n3 q3, .slice lp 8 lq, .slice mp 64 mq]) (by simp [results, Tryz.results18, asAddr]; rw [LD]) rfl ⟨_, _, _, _, _, _, _, _, _, _, _, _, rfl, F, B6⟩
end Go.Proofs.YtimcoobhakfnaaaGreatDoor
namespace Go.Proofs.YtimcoobhakfnaaaGreatDoor
open Go.RowKit
set_option linter.unusedVariables false

theorem mcr_regs {w : World} {m : Nat} {t : TypeId} {H : Ht} {i o l pg : Value} {ca ri : Int} (h : Vb w m (mcr H i o l pg ca ri) t) (hl : H.regs.length = 16) : Rn w (some ⟨m, 0, none⟩) 16 16 H.regs := by
  refine .inr ⟨_, rfl, Nat.le_refl _, by decide, hl, fun j hj => ?_⟩
  have e : j = 0 ∨ j = 1 ∨ j = 2 ∨ j = 3 ∨ j = 4 ∨ j = 5 ∨ j = 6 ∨ j = 7 ∨ j = 8 ∨ j = 9 ∨ j = 10 ∨ j = 11 ∨ j = 12 ∨ j = 13 ∨ j = 14 ∨ j = 15 := by omega
  rw [Addr.add_mid]
  rcases e with rfl | rfl | rfl | rfl | rfl | rfl | rfl | rfl | rfl | rfl | rfl | rfl | rfl | rfl | rfl | rfl
  · exact h.cell 0 rfl
  · exact h.cell 1 rfl
  · exact h.cell 2 rfl
  · exact h.cell 3 rfl
  · exact h.cell 4 rfl
  · exact h.cell 5 rfl
  · exact h.cell 6 rfl
  · exact h.cell 7 rfl
  · exact h.cell 8 rfl
  · exact h.cell 9 rfl
  · exact h.cell 10 rfl
  · exact h.cell 11 rfl
  · exact h.cell 12 rfl
  · exact h.cell 13 rfl
  · exact h.cell 14 rfl
  · exact h.cell 15 rfl
theorem mcr_csr {w : World} {m : Nat} {t : TypeId} {H : Ht} {i o l pg : Value} {ca ri : Int} (h : Vb w m (mcr H i o l pg ca ri) t) (hl : H.csr.length = 11) : Rn w (some ⟨m, 17, none⟩) 11 11 H.csr := by
  refine .inr ⟨_, rfl, Nat.le_refl _, by decide, hl, fun j hj => ?_⟩
  have e : j = 0 ∨ j = 1 ∨ j = 2 ∨ j = 3 ∨ j = 4 ∨ j = 5 ∨ j = 6 ∨ j = 7 ∨ j = 8 ∨ j = 9 ∨ j = 10 := by omega
  rw [Addr.add_mid]
  rcases e with rfl | rfl | rfl | rfl | rfl | rfl | rfl | rfl | rfl | rfl | rfl
  · exact h.cell 17 rfl
  · exact h.cell 18 rfl
  · exact h.cell 19 rfl
  · exact h.cell 20 rfl
  · exact h.cell 21 rfl
  · exact h.cell 22 rfl
  · exact h.cell 23 rfl
  · exact h.cell 24 rfl
  · exact h.cell 25 rfl
  · exact h.cell 26 rfl
  · exact h.cell 27 rfl

set_option maxRecDepth 20000 in
set_option maxHeartbeats 8000000 in
theorem r_hartr (m : Nat) (i o l pg : Value) (ca ri : Int) (H : Ht) (w : World) (hv : Vb w m (mcr H i o l pg ca ri) 95) (hi : Rv w i H.inn) (ho : Rv w o H.out) (hr : H.regs.length = 16) (hc : H.csr.length = 11) (h2 : H.inn.length ≤ 1000) (h3 : H.out.length ≤ 1000) :
    Calls Tryz.prog 88 #[.pointer (some ⟨m, 0, none⟩)] w fun e w' => ∃ r c i' o', e = .returned (.agg #[r, .int .i64 H.pc, c, .bool H.halted, .bool H.waiting, .bool H.rung, .int .i64 H.done, i', o']) ∧ Hm w' w.heap.size r c i' o' H ∧ Ha r c i' o' ∧ Below w.heap.size w w' := by
  obtain ⟨a2, k2, rfl, hi⟩ := hi
  obtain ⟨a3, k3, rfl, ho⟩ := ho
  have LN : Hid (H.regs.length = 16 ∧ H.csr.length = 11 ∧ H.inn.length ≤ 1000 ∧ H.out.length ≤ 1000) := ⟨hr, hc, h2, h3⟩
  have HI : Hid (Rn w a2 _ k2 H.inn) := hi
  have HO : Hid (Rn w a3 _ k3 H.out) := ho
  have HV : Hid (Vb w m _ 95) := hv
  clear hr hc h2 h3 hi ho hv
  generalize H.inn.length = n2 at *
  generalize H.out.length = n3 at *
  generalize hW : w.alloc (.cells #[.slice none 0 0, .int .i64 0, .slice none 0 0, .bool false, .bool false, .bool false, .int .i64 0, .slice none 0 0, .slice none 0 0] 29) = W
  have B0 : Hid (Below w.heap.size w W) := by show Below _ _ _; rw [← hW]; exact al (Below.refl _ _) _
  obtain ⟨q, hq⟩ : ∃ q, w.heap.size = q := ⟨_, rfl⟩
  have HQ : Hid (w.heap.size = q) := hq
  have VR : Hid (Vb W q #[.slice none 0 0, .int .i64 0, .slice none 0 0, .bool false, .bool false, .bool false, .int .i64 0, .slice none 0 0, .slice none 0 0] 29) := by
    show Vb _ _ _ _; rw [← hW, ← hq]; exact Vb.new _ _ _
  have LT : Hid (q < W.heap.size) := VR.out.lt
  have ML : Hid (m < q) := by show _ < _; rw [← hq]; exact HV.out.lt
  have S0 : Hid (Sj W q W) := ⟨Mq.refl _ _, VR.out.there 9 (by decide)⟩
  have VS : Hid (∀ w', Sj W q w' → Vb w' m (mcr H (.slice a2 n2 k2) (.slice a3 n3 k3) l pg ca ri) 95) := fun w' hs => hs.1.vb (HV.out.keep B0.out) (by have := ML.out; omega)
  have IS : Hid (∀ w', Sj W q w' → Rn w' a2 n2 k2 H.inn) := fun w' hs => HI.out.mq ((Mq.of (below_grown B0.out none) fun k e => by cases e).trans hs.1) fun x e hl f => by have := HQ.out; omega
  have OS : Hid (∀ w', Sj W q w' → Rn w' a3 n3 k3 H.out) := fun w' hs => HO.out.mq ((Mq.of (below_grown B0.out none) fun k e => by cases e).trans hs.1) fun x e hl f => by have := HQ.out; omega
  have q16 : ∀ w', Sj W q w' → w'.cell? ⟨m, 16, none⟩ = some (.int .i64 H.pc) := fun w' hs => (VS.out w' hs).cell 16 rfl
  have q28 : ∀ w', Sj W q w' → w'.cell? ⟨m, 28, none⟩ = some (.bool H.halted) := fun w' hs => (VS.out w' hs).cell 28 rfl
  have q29 : ∀ w', Sj W q w' → w'.cell? ⟨m, 29, none⟩ = some (.bool H.waiting) := fun w' hs => (VS.out w' hs).cell 29 rfl
  have q30 : ∀ w', Sj W q w' → w'.cell? ⟨m, 30, none⟩ = some (.bool H.rung) := fun w' hs => (VS.out w' hs).cell 30 rfl
  have q31 : ∀ w', Sj W q w' → w'.cell? ⟨m, 31, none⟩ = some (.int .i64 H.done) := fun w' hs => (VS.out w' hs).cell 31 rfl
  have q32 : ∀ w', Sj W q w' → w'.cell? ⟨m, 32, none⟩ = some (.slice a2 n2 k2) := fun w' hs => (VS.out w' hs).cell 32 rfl
  have q33 : ∀ w', Sj W q w' → w'.cell? ⟨m, 33, none⟩ = some (.slice a3 n3 k3) := fun w' hs => (VS.out w' hs).cell 33 rfl
  go_enter Tryz.func88, Tryz.ntmps88
  go_wp2_with fail
  clear hW hq
  have SD : Hid (Sj W q W.drew) := S0.out.step LT.out (Below.refl _ _).drew
  refine wp_region_held (S := fun w' => Sj W q w') (by kernel_rfl) ?_
  change wpAnyH _ _ _ _ _ _ _ _ (World.drew _)
  refine tk (i := 0) (v := .pointer (some ⟨m, 0, none⟩)) rfl (Or.inl ⟨by rfl, fun w' hs => by go_simp⟩) SD.out ?_
  change wpAnyH _ _ _ _ _ _ _ (Act.put _ (some 3) _) _
  simp only [Act.put, List.setIfInBounds_toArray, List.set_cons_zero, List.set_cons_succ]
  refine tk (i := 1) (v := .pointer (some ⟨m, 0, none⟩)) rfl (Or.inl ⟨by rfl, fun w' hs => by go_simp⟩) SD.out ?_
  change wpAnyH _ _ _ _ _ _ _ (Act.put _ (some 4) _) _
  simp only [Act.put, List.setIfInBounds_toArray, List.set_cons_zero, List.set_cons_succ]
  refine tk (i := 2) (v := .pointer (some ⟨m, 0, none⟩)) rfl (Or.inl ⟨by rfl, fun w' hs => by go_simp⟩) SD.out ?_
  change wpAnyH _ _ _ _ _ _ _ (Act.put _ (some 5) _) _
  simp only [Act.put, List.setIfInBounds_toArray, List.set_cons_zero, List.set_cons_succ]
  refine tk (i := 3) (v := .pointer (some ⟨m, 0, none⟩)) rfl (Or.inl ⟨by rfl, fun w' hs => by go_simp⟩) SD.out ?_
  change wpAnyH _ _ _ _ _ _ _ (Act.put _ (some 6) _) _
  simp only [Act.put, List.setIfInBounds_toArray, List.set_cons_zero, List.set_cons_succ]
  refine tk (i := 4) (v := .slice (some ⟨m, 0, none⟩) 16 16) rfl (Or.inl ⟨by rfl, fun w' hs => by go_simp⟩) SD.out ?_
  change wpAnyH _ _ _ _ _ _ _ (Act.put _ (some 7) _) _
  simp only [Act.put, List.setIfInBounds_toArray, List.set_cons_zero, List.set_cons_succ]
  refine tk (i := 6) (v := .pointer (some ⟨m, 0, none⟩)) rfl (Or.inl ⟨by rfl, fun w' hs => by go_simp⟩) SD.out ?_
  change wpAnyH _ _ _ _ _ _ _ (Act.put _ (some 9) _) _
  simp only [Act.put, List.setIfInBounds_toArray, List.set_cons_zero, List.set_cons_succ]
  refine tk (i := 7) (v := .pointer (some ⟨m, 0, none⟩)) rfl (Or.inl ⟨by rfl, fun w' hs => by go_simp⟩) SD.out ?_
  change wpAnyH _ _ _ _ _ _ _ (Act.put _ (some 10) _) _
  simp only [Act.put, List.setIfInBounds_toArray, List.set_cons_zero, List.set_cons_succ]
  refine tk (i := 8) (v := .pointer (some ⟨m, 0, none⟩)) rfl (Or.inl ⟨by rfl, fun w' hs => by go_simp⟩) SD.out ?_
  change wpAnyH _ _ _ _ _ _ _ (Act.put _ (some 11) _) _
  simp only [Act.put, List.setIfInBounds_toArray, List.set_cons_zero, List.set_cons_succ]
  refine tk (i := 9) (v := .pointer (some ⟨m, 16, none⟩)) rfl (Or.inl ⟨by rfl, fun w' hs => by go_simp⟩) SD.out ?_
  change wpAnyH _ _ _ _ _ _ _ (Act.put _ (some 12) _) _
  simp only [Act.put, List.setIfInBounds_toArray, List.set_cons_zero, List.set_cons_succ]
  refine tk (i := 10) (v := .int .i64 H.pc) rfl (Or.inl ⟨by rfl, fun w' hs => by go_simp⟩) SD.out ?_
  change wpAnyH _ _ _ _ _ _ _ (Act.put _ (some 13) _) _
  simp only [Act.put, List.setIfInBounds_toArray, List.set_cons_zero, List.set_cons_succ]
  refine tk (i := 11) (v := .pointer (some ⟨m, 0, none⟩)) rfl (Or.inl ⟨by rfl, fun w' hs => by go_simp⟩) SD.out ?_
  change wpAnyH _ _ _ _ _ _ _ (Act.put _ (some 14) _) _
  simp only [Act.put, List.setIfInBounds_toArray, List.set_cons_zero, List.set_cons_succ]
  refine tk (i := 12) (v := .pointer (some ⟨m, 0, none⟩)) rfl (Or.inl ⟨by rfl, fun w' hs => by go_simp⟩) SD.out ?_
  change wpAnyH _ _ _ _ _ _ _ (Act.put _ (some 15) _) _
  simp only [Act.put, List.setIfInBounds_toArray, List.set_cons_zero, List.set_cons_succ]
  refine tk (i := 13) (v := .pointer (some ⟨m, 0, none⟩)) rfl (Or.inl ⟨by rfl, fun w' hs => by go_simp⟩) SD.out ?_
  change wpAnyH _ _ _ _ _ _ _ (Act.put _ (some 16) _) _
  simp only [Act.put, List.setIfInBounds_toArray, List.set_cons_zero, List.set_cons_succ]
  refine tk (i := 14) (v := .pointer (some ⟨m, 17, none⟩)) rfl (Or.inl ⟨by rfl, fun w' hs => by go_simp⟩) SD.out ?_
  change wpAnyH _ _ _ _ _ _ _ (Act.put _ (some 17) _) _
  simp only [Act.put, List.setIfInBounds_toArray, List.set_cons_zero, List.set_cons_succ]
  refine tk (i := 15) (v := .slice (some ⟨m, 17, none⟩) 11 11) rfl (Or.inl ⟨by rfl, fun w' hs => by go_simp⟩) SD.out ?_
  change wpAnyH _ _ _ _ _ _ _ (Act.put _ (some 18) _) _
  simp only [Act.put, List.setIfInBounds_toArray, List.set_cons_zero, List.set_cons_succ]
  refine tk (i := 17) (v := .pointer (some ⟨m, 0, none⟩)) rfl (Or.inl ⟨by rfl, fun w' hs => by go_simp⟩) SD.out ?_
  change wpAnyH _ _ _ _ _ _ _ (Act.put _ (some 20) _) _
  simp only [Act.put, List.setIfInBounds_toArray, List.set_cons_zero, List.set_cons_succ]
  refine tk (i := 18) (v := .pointer (some ⟨m, 0, none⟩)) rfl (Or.inl ⟨by rfl, fun w' hs => by go_simp⟩) SD.out ?_
  change wpAnyH _ _ _ _ _ _ _ (Act.put _ (some 21) _) _
  simp only [Act.put, List.setIfInBounds_toArray, List.set_cons_zero, List.set_cons_succ]
  refine tk (i := 19) (v := .pointer (some ⟨m, 28, none⟩)) rfl (Or.inl ⟨by rfl, fun w' hs => by go_simp⟩) SD.out ?_
  change wpAnyH _ _ _ _ _ _ _ (Act.put _ (some 22) _) _
  simp only [Act.put, List.setIfInBounds_toArray, List.set_cons_zero, List.set_cons_succ]
  refine tk (i := 20) (v := .bool H.halted) rfl (Or.inl ⟨by rfl, fun w' hs => by go_simp⟩) SD.out ?_
  change wpAnyH _ _ _ _ _ _ _ (Act.put _ (some 23) _) _
  simp only [Act.put, List.setIfInBounds_toArray, List.set_cons_zero, List.set_cons_succ]
  refine tk (i := 21) (v := .pointer (some ⟨m, 0, none⟩)) rfl (Or.inl ⟨by rfl, fun w' hs => by go_simp⟩) SD.out ?_
  change wpAnyH _ _ _ _ _ _ _ (Act.put _ (some 24) _) _
  simp only [Act.put, List.setIfInBounds_toArray, List.set_cons_zero, List.set_cons_succ]
  refine tk (i := 22) (v := .pointer (some ⟨m, 0, none⟩)) rfl (Or.inl ⟨by rfl, fun w' hs => by go_simp⟩) SD.out ?_
  change wpAnyH _ _ _ _ _ _ _ (Act.put _ (some 25) _) _
  simp only [Act.put, List.setIfInBounds_toArray, List.set_cons_zero, List.set_cons_succ]
  refine tk (i := 23) (v := .pointer (some ⟨m, 29, none⟩)) rfl (Or.inl ⟨by rfl, fun w' hs => by go_simp⟩) SD.out ?_
  change wpAnyH _ _ _ _ _ _ _ (Act.put _ (some 26) _) _
  simp only [Act.put, List.setIfInBounds_toArray, List.set_cons_zero, List.set_cons_succ]
  refine tk (i := 24) (v := .bool H.waiting) rfl (Or.inl ⟨by rfl, fun w' hs => by go_simp⟩) SD.out ?_
  change wpAnyH _ _ _ _ _ _ _ (Act.put _ (some 27) _) _
  simp only [Act.put, List.setIfInBounds_toArray, List.set_cons_zero, List.set_cons_succ]
  refine tk (i := 25) (v := .pointer (some ⟨m, 0, none⟩)) rfl (Or.inl ⟨by rfl, fun w' hs => by go_simp⟩) SD.out ?_
  change wpAnyH _ _ _ _ _ _ _ (Act.put _ (some 28) _) _
  simp only [Act.put, List.setIfInBounds_toArray, List.set_cons_zero, List.set_cons_succ]
  refine tk (i := 26) (v := .pointer (some ⟨m, 0, none⟩)) rfl (Or.inl ⟨by rfl, fun w' hs => by go_simp⟩) SD.out ?_
  change wpAnyH _ _ _ _ _ _ _ (Act.put _ (some 29) _) _
  simp only [Act.put, List.setIfInBounds_toArray, List.set_cons_zero, List.set_cons_succ]
  refine tk (i := 27) (v := .pointer (some ⟨m, 30, none⟩)) rfl (Or.inl ⟨by rfl, fun w' hs => by go_simp⟩) SD.out ?_
  change wpAnyH _ _ _ _ _ _ _ (Act.put _ (some 30) _) _
  simp only [Act.put, List.setIfInBounds_toArray, List.set_cons_zero, List.set_cons_succ]
  refine tk (i := 28) (v := .bool H.rung) rfl (Or.inl ⟨by rfl, fun w' hs => by go_simp⟩) SD.out ?_
  change wpAnyH _ _ _ _ _ _ _ (Act.put _ (some 31) _) _
  simp only [Act.put, List.setIfInBounds_toArray, List.set_cons_zero, List.set_cons_succ]
  refine tk (i := 29) (v := .pointer (some ⟨m, 0, none⟩)) rfl (Or.inl ⟨by rfl, fun w' hs => by go_simp⟩) SD.out ?_
  change wpAnyH _ _ _ _ _ _ _ (Act.put _ (some 32) _) _
  simp only [Act.put, List.setIfInBounds_toArray, List.set_cons_zero, List.set_cons_succ]
  refine tk (i := 30) (v := .pointer (some ⟨m, 0, none⟩)) rfl (Or.inl ⟨by rfl, fun w' hs => by go_simp⟩) SD.out ?_
  change wpAnyH _ _ _ _ _ _ _ (Act.put _ (some 33) _) _
  simp only [Act.put, List.setIfInBounds_toArray, List.set_cons_zero, List.set_cons_succ]
  refine tk (i := 31) (v := .pointer (some ⟨m, 31, none⟩)) rfl (Or.inl ⟨by rfl, fun w' hs => by go_simp⟩) SD.out ?_
  change wpAnyH _ _ _ _ _ _ _ (Act.put _ (some 34) _) _
  simp only [Act.put, List.setIfInBounds_toArray, List.set_cons_zero, List.set_cons_succ]
  refine tk (i := 32) (v := .int .i64 H.done) rfl (Or.inl ⟨by rfl, fun w' hs => by go_simp⟩) SD.out ?_
  change wpAnyH _ _ _ _ _ _ _ (Act.put _ (some 35) _) _
  simp only [Act.put, List.setIfInBounds_toArray, List.set_cons_zero, List.set_cons_succ]
  refine tk (i := 33) (v := .pointer (some ⟨m, 0, none⟩)) rfl (Or.inl ⟨by rfl, fun w' hs => by go_simp⟩) SD.out ?_
  change wpAnyH _ _ _ _ _ _ _ (Act.put _ (some 36) _) _
  simp only [Act.put, List.setIfInBounds_toArray, List.set_cons_zero, List.set_cons_succ]
  refine tk (i := 34) (v := .pointer (some ⟨m, 0, none⟩)) rfl (Or.inl ⟨by rfl, fun w' hs => by go_simp⟩) SD.out ?_
  change wpAnyH _ _ _ _ _ _ _ (Act.put _ (some 37) _) _
  simp only [Act.put, List.setIfInBounds_toArray, List.set_cons_zero, List.set_cons_succ]
  refine tk (i := 35) (v := .pointer (some ⟨m, 32, none⟩)) rfl (Or.inl ⟨by rfl, fun w' hs => by go_simp⟩) SD.out ?_
  change wpAnyH _ _ _ _ _ _ _ (Act.put _ (some 38) _) _
  simp only [Act.put, List.setIfInBounds_toArray, List.set_cons_zero, List.set_cons_succ]
  refine tk (i := 36) (v := .slice a2 n2 k2) rfl (Or.inl ⟨by rfl, fun w' hs => by go_simp⟩) SD.out ?_
  change wpAnyH _ _ _ _ _ _ _ (Act.put _ (some 39) _) _
  simp only [Act.put, List.setIfInBounds_toArray, List.set_cons_zero, List.set_cons_succ]
  refine tk (i := 38) (v := .pointer (some ⟨m, 0, none⟩)) rfl (Or.inl ⟨by rfl, fun w' hs => by go_simp⟩) SD.out ?_
  change wpAnyH _ _ _ _ _ _ _ (Act.put _ (some 41) _) _
  simp only [Act.put, List.setIfInBounds_toArray, List.set_cons_zero, List.set_cons_succ]
  refine tk (i := 39) (v := .pointer (some ⟨m, 0, none⟩)) rfl (Or.inl ⟨by rfl, fun w' hs => by go_simp⟩) SD.out ?_
  change wpAnyH _ _ _ _ _ _ _ (Act.put _ (some 42) _) _
  simp only [Act.put, List.setIfInBounds_toArray, List.set_cons_zero, List.set_cons_succ]
  refine tk (i := 40) (v := .pointer (some ⟨m, 33, none⟩)) rfl (Or.inl ⟨by rfl, fun w' hs => by go_simp⟩) SD.out ?_
  change wpAnyH _ _ _ _ _ _ _ (Act.put _ (some 43) _) _
  simp only [Act.put, List.setIfInBounds_toArray, List.set_cons_zero, List.set_cons_succ]
  refine tk (i := 41) (v := .slice a3 n3 k3) rfl (Or.inl ⟨by rfl, fun w' hs => by go_simp⟩) SD.out ?_
  change wpAnyH _ _ _ _ _ _ _ (Act.put _ (some 44) _) _
  simp only [Act.put, List.setIfInBounds_toArray, List.set_cons_zero, List.set_cons_succ]
  refine wpAnyH_ready (rs := [5]) (by kernel_rfl) (by simp) ?_
  refine AllReadyH.cons rfl (fun K hK => ?_) AllReadyH.nil
  rw [if_pos (by rfl)]
  go_simp
  refine (i_clone (some ⟨m, 0, none⟩) 16 16 H.regs _ (mcr_regs (VS.out _ SD.out) LN.out.1) (by decide)).mono ?_
  rintro e w1 ⟨v1, rfl, m1, b1⟩
  obtain ⟨xa1, xk1, rfl, _⟩ := m1.shape
  have S1 : Hid (Sj W q w1) := SD.out.step LT.out b1
  have N1 : Hid (Nums w1 W.drew.heap.size (.slice xa1 H.regs.length xk1) H.regs) := m1
  have G1 : Hid (W.drew.heap.size ≤ w1.heap.size) := b1.size
  clear m1 b1
  refine hK.out _ _ S1.out (fun _ => ?_)
  clear hK K
  refine wpAnyH_ready (rs := [16]) (by kernel_rfl) (by simp) ?_
  refine AllReadyH.cons rfl (fun K hK => ?_) AllReadyH.nil
  rw [if_pos (by rfl)]
  go_simp
  refine (i_clone (some ⟨m, 17, none⟩) 11 11 H.csr _ (mcr_csr (VS.out _ S1.out) LN.out.2.1) (by decide)).mono ?_
  rintro e w2 ⟨v2, rfl, m1, b1⟩
  obtain ⟨xa2, xk2, rfl, _⟩ := m1.shape
  have S2 : Hid (Sj W q w2) := S1.out.step LT.out b1
  have N2 : Hid (Nums w2 w1.heap.size (.slice xa2 H.csr.length xk2) H.csr) := m1
  have G2 : Hid (w1.heap.size ≤ w2.heap.size) := b1.size
  have H2 : Hid (Ho W.heap.size w1 w2) := Ho.of b1
  clear m1 b1
  refine hK.out _ _ S2.out (fun _ => ?_)
  clear hK K
  refine wpAnyH_ready (rs := [37]) (by kernel_rfl) (by simp) ?_
  refine AllReadyH.cons rfl (fun K hK => ?_) AllReadyH.nil
  rw [if_pos (by rfl)]
  go_simp
  refine (i_clone a2 n2 k2 H.inn _ (IS.out _ S2.out) (by have := LN.out.2.2.1; omega)).mono ?_
  rintro e w3 ⟨v3, rfl, m1, b1⟩
  obtain ⟨xa3, xk3, rfl, _⟩ := m1.shape
  have S3 : Hid (Sj W q w3) := S2.out.step LT.out b1
  have N3 : Hid (Nums w3 w2.heap.size (.slice xa3 H.inn.length xk3) H.inn) := m1
  have G3 : Hid (w2.heap.size ≤ w3.heap.size) := b1.size
  have H3 : Hid (Ho W.heap.size w2 w3) := Ho.of b1
  clear m1 b1
  refine hK.out _ _ S3.out (fun _ => ?_)
  clear hK K
  refine wpAnyH_ready (rs := [42]) (by kernel_rfl) (by simp) ?_
  refine AllReadyH.cons rfl (fun K hK => ?_) AllReadyH.nil
  rw [if_pos (by rfl)]
  go_simp
  refine (i_clone a3 n3 k3 H.out _ (OS.out _ S3.out) (by have := LN.out.2.2.2; omega)).mono ?_
  rintro e w4 ⟨v4, rfl, m1, b1⟩
  obtain ⟨xa4, xk4, rfl, _⟩ := m1.shape
  have S4 : Hid (Sj W q w4) := S3.out.step LT.out b1
  have N4 : Hid (Nums w4 w3.heap.size (.slice xa4 H.out.length xk4) H.out) := m1
  have G4 : Hid (w3.heap.size ≤ w4.heap.size) := b1.size
  have H4 : Hid (Ho W.heap.size w3 w4) := Ho.of b1
  clear m1 b1
  refine hK.out _ _ S4.out (fun _ => ?_)
  clear hK K
  refine tk (i := 43) (v := .agg #[.slice xa1 H.regs.length xk1, .int .i64 H.pc, .slice xa2 H.csr.length xk2, .bool H.halted, .bool H.waiting, .bool H.rung, .int .i64 H.done, .slice xa3 H.inn.length xk3, .slice xa4 H.out.length xk4]) rfl (Or.inl ⟨by rfl, fun w' hs => by go_simp⟩) S4.out ?_
  change wpAnyH _ _ _ _ _ _ _ (Act.put _ (some 46) _) _
  simp only [Act.put, List.setIfInBounds_toArray, List.set_cons_zero, List.set_cons_succ]
  refine wpAnyH_ready (rs := [44]) (by kernel_rfl) (by simp) ?_
  refine AllReadyH.cons rfl (fun K hK => ?_) AllReadyH.nil
  rw [if_pos (by rfl)]
  refine wp_store_mid 29 (.tmp 2) (.tmp 46) rfl q 0 #[.slice xa1 H.regs.length xk1, .int .i64 H.pc, .slice xa2 H.csr.length xk2, .bool H.halted, .bool H.waiting, .bool H.rung, .int .i64 H.done, .slice xa3 H.inn.length xk3, .slice xa4 H.out.length xk4] rfl rfl S4.out.2 (by kernel_rfl) (by simp [Value.oneCell']) ?_
  change K (Act.put _ none undef) (World.setCells w4 q 0 [.slice xa1 H.regs.length xk1, .int .i64 H.pc, .slice xa2 H.csr.length xk2, .bool H.halted, .bool H.waiting, .bool H.rung, .int .i64 H.done, .slice xa3 H.inn.length xk3, .slice xa4 H.out.length xk4])
  simp only [Act.put]
  have S5 : Hid (Sj W q (w4.setCells q 0 [.slice xa1 H.regs.length xk1, .int .i64 H.pc, .slice xa2 H.csr.length xk2, .bool H.halted, .bool H.waiting, .bool H.rung, .int .i64 H.done, .slice xa3 H.inn.length xk3, .slice xa4 H.out.length xk4])) := S4.out.set _
  have R5 : Hid ((w4.setCells q 0 [.slice xa1 H.regs.length xk1, .int .i64 H.pc, .slice xa2 H.csr.length xk2, .bool H.halted, .bool H.waiting, .bool H.rung, .int .i64 H.done, .slice xa3 H.inn.length xk3, .slice xa4 H.out.length xk4]).rangeAt q 0 [.slice xa1 H.regs.length xk1, .int .i64 H.pc, .slice xa2 H.csr.length xk2, .bool H.halted, .bool H.waiting, .bool H.rung, .int .i64 H.done, .slice xa3 H.inn.length xk3, .slice xa4 H.out.length xk4]) := World.rangeAt_setCells_same _ _ _ _ S4.out.2
  have H5 : Hid (Ho W.heap.size w4 (w4.setCells q 0 [.slice xa1 H.regs.length xk1, .int .i64 H.pc, .slice xa2 H.csr.length xk2, .bool H.halted, .bool H.waiting, .bool H.rung, .int .i64 H.done, .slice xa3 H.inn.length xk3, .slice xa4 H.out.length xk4])) := (mq_cells q _ w4 0).ho fun k e => by have := LT.out; omega
  generalize w4.setCells q 0 [.slice xa1 H.regs.length xk1, .int .i64 H.pc, .slice xa2 H.csr.length xk2, .bool H.halted, .bool H.waiting, .bool H.rung, .int .i64 H.done, .slice xa3 H.inn.length xk3, .slice xa4 H.out.length xk4] = w5 at *
  refine hK.out _ _ S5.out (fun _ => ?_)
  clear hK K
  refine wpAnyH_done (by kernel_rfl) ?_ _
  have E1 : W.heap.size ≤ w1.heap.size := S1.out.1.size
  have E2 : W.heap.size ≤ w2.heap.size := S2.out.1.size
  have E3 : W.heap.size ≤ w3.heap.size := S3.out.1.size
  have Q1 : Nums w5 W.heap.size (.slice xa1 H.regs.length xk1) H.regs := Nums.ho (show Nums w1 W.heap.size _ H.regs from N1.out) (H2.out.trans (H3.out.trans (H4.out.trans H5.out)))
  have Q2 : Nums w5 W.heap.size (.slice xa2 H.csr.length xk2) H.csr := (N2.out.mono E1).ho (H3.out.trans (H4.out.trans H5.out))
  have Q3 : Nums w5 W.heap.size (.slice xa3 H.inn.length xk3) H.inn := (N3.out.mono E2).ho (H4.out.trans H5.out)
  have Q4 : Nums w5 W.heap.size (.slice xa4 H.out.length xk4) H.out := (N4.out.mono E3).ho H5.out
  have A12 := N1.out.apt N2.out (Nat.le_refl _)
  have A13 := N1.out.apt N3.out G2.out
  have A14 := N1.out.apt N4.out (Nat.le_trans G2.out G3.out)
  have A23 := N2.out.apt N3.out (Nat.le_refl _)
  have A24 := N2.out.apt N4.out G3.out
  have A34 := N3.out.apt N4.out (Nat.le_refl _)
  have B5 : Below w.heap.size w w5 := Mq.under B0.out S5.out.1 fun k e => by have := HQ.out; omega
  have LD := run_loadVar_mid (P := Tryz.prog) w5 q 0 29 [.slice xa1 H.regs.length xk1, .int .i64 H.pc, .slice xa2 H.csr.length xk2, .bool H.halted, .bool H.waiting, .bool H.rung, .int .i64 H.done, .slice xa3 H.inn.length xk3, .slice xa4 H.out.length xk4] _ R5.out Tryz.underlying29 rfl (by kernel_rfl)
  clear q16 q28 q29 q30 q31 q32 q33
  go_wp2_with fail
  exact bodyPost_ret (v := .agg #[.slice xa1 H.regs.length xk1, .int .i64 H.pc, .slice xa2 H.csr.length xk2, .bool H.halted, .bool H.waiting, .bool H.rung, .int .i64 H.done, .slice xa3 H.inn.length xk3, .slice xa4 H.out.length xk4]) (by simp [results, Tryz.results88, asAddr]; rw [LD]) rfl
    ⟨_, _, _, _, rfl, ⟨Q1.mono B0.out.size, Q2.mono B0.out.size, Q3.mono B0.out.size, Q4.mono B0.out.size⟩, ⟨A12, A13, A14, A23, A24, A34⟩, B5⟩
end Go.Proofs.YtimcoobhakfnaaaGreatDoor
