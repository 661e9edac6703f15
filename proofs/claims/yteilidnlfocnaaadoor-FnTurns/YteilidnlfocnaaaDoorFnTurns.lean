/- The law FnTurns answers true at every input, and each argument reads behind the call as it read ahead of it; no condition. -/
import Derived.Test.YteilidnlfocnaaaDoorBase
import Derived.Test.YteilidnlfocnaaaDoorCards
import Derived.Test.YteilidnlfocnaaaDoorTie
import Derived.Deep.DeepHandedRow
import Derived.LaidHandle
import Derived.LaidLaws
import Derived.Lib.LaidTab
import Derived.Stop.LaidErr
import Derived.Test.YteilidnlfocnaaaDoorPoo
import Derived.Test.YteilidnlfocnaaaDoorPlt
import Derived.Test.YteilidnlfocnaaaDoorTnx
import Derived.Test.YteilidnlfocnaaaDoorPol
import Derived.Deep.RegionWith
import Derived.Deep.Cut
import Derived.Deep.CutRange
import Derived.Test.YteilidnlfocnaaaDoorDpe
import Derived.Test.YteilidnlfocnaaaDoorWide
import Derived.Deep.RegionHeld3
namespace Go.Proofs.YteilidnlfocnaaaDoor
open Go.RowKit
set_option linter.unusedVariables false

theorem fourB {v : World} {q : Nat} {t : TypeId} {z0 z1 z2 z3 : Value} (h : Bk v q #[z0, z1, z2, z3] t) (u0 u1 u2 u3 : Value) :
    Bk ((((v.setCell ⟨q, 0, none⟩ u0).setCell ⟨q, 1, none⟩ u1).setCell ⟨q, 2, none⟩ u2).setCell ⟨q, 3, none⟩ u3) q #[u0, u1, u2, u3] t := by
  have h0 : Bk (v.setCell ⟨q, 0, none⟩ u0) q #[u0, z1, z2, z3] t := h.set 0 u0
  have h1 : Bk ((v.setCell ⟨q, 0, none⟩ u0).setCell ⟨q, 1, none⟩ u1) q #[u0, u1, z2, z3] t := h0.set 1 u1
  have h2 : Bk (((v.setCell ⟨q, 0, none⟩ u0).setCell ⟨q, 1, none⟩ u1).setCell ⟨q, 2, none⟩ u2) q #[u0, u1, u2, z3] t := h1.set 2 u2
  exact h2.set 3 u3
set_option maxRecDepth 20000 in
set_option maxHeartbeats 8000000 in
theorem drawTurnAt {w : World} {a : Option Addr} {len cap : Nat} {zs : List Int} (hr : IsRow .u8 w a len cap zs) :
    Calls Tryd.prog 10 #[.slice a len cap] w fun e w' => ∃ v0 v1 v2 v3 P cl, e = .returned (.tuple #[.agg #[v0, v1, v2, v3], .int .i64 cl]) ∧ Dv w' w.heap.size v0 v1 v2 v3 P ∧ Below w.heap.size w w' := by
  have HR : Hid (IsRow .u8 w a len cap zs) := hr
  obtain ⟨s0, hs0⟩ : ∃ s, w.heap.size = s := ⟨_, rfl⟩
  have S0 : Hid (w.heap.size ≤ s0) := by show _ ≤ _; omega
  have SE : Hid (w.heap.size = s0) := hs0
  clear hr
  go_enter Tryd.func10, Tryd.ntmps10
  go_wp2_with fail
  have A0 : Hid (Below w.heap.size w (w.alloc (.cells #[.slice none 0 0, .slice none 0 0, .slice none 0 0, .slice none 0 0] 29))) := al (Below.refl _ _) _
  have R0 : Hid (Bk (w.alloc (.cells #[.slice none 0 0, .slice none 0 0, .slice none 0 0, .slice none 0 0] 29)) s0 #[.slice none 0 0, .slice none 0 0, .slice none 0 0, .slice none 0 0] 29) := by show Bk _ _ _ _; rw [← hs0]; exact Bk.new _ _ _
  have Z0 : Hid (s0 + 1 = (w.alloc (.cells #[.slice none 0 0, .slice none 0 0, .slice none 0 0, .slice none 0 0] 29)).heap.size) := by show _ = _; simp; omega
  try rw [hs0]
  generalize w.alloc (.cells #[.slice none 0 0, .slice none 0 0, .slice none 0 0, .slice none 0 0] 29) = W at *
  clear hs0
  refine (source_any (HR.out.below A0.out)).mono ?_
  rintro e w1 ⟨rfl, b1, sr⟩
  have B1 : Hid (Below W.heap.size W w1) := b1
  have SR : Hid (Src w1 W.heap.size 0 a len cap zs) := sr
  obtain ⟨b, hb⟩ : ∃ b, W.heap.size = b := ⟨_, rfl⟩
  have BE : Hid (W.heap.size = b) := hb
  rw [hb] at SR ⊢
  have R1 : Hid (Bk w1 s0 #[.slice none 0 0, .slice none 0 0, .slice none 0 0, .slice none 0 0] 29) := R0.out.keep b1
  clear b1 sr hb
  go_wp2_with fail
  refine (bentp_any SR.out (by decide)).mono ?_
  rintro e w2 ⟨_, _, _, _, P, k, rfl, dv, hk, tn, s2⟩
  obtain ⟨a0, c0, a1, c1, a2, c2, a3, c3, e0, e1, e2, e3⟩ := dv.shape
  subst e0 e1 e2 e3
  obtain ⟨n0, hn0⟩ : ∃ n, P.own.length = n := ⟨_, rfl⟩
  obtain ⟨n1, hn1⟩ : ∃ n, P.lanes.length = n := ⟨_, rfl⟩
  obtain ⟨n2, hn2⟩ : ∃ n, P.bells.length = n := ⟨_, rfl⟩
  obtain ⟨n3, hn3⟩ : ∃ n, P.plan.length = n := ⟨_, rfl⟩
  rw [hn0, hn1, hn2, hn3] at dv ⊢
  clear hn0 hn1 hn2 hn3
  have DV : Hid (Dv w2 w1.heap.size (.slice a0 n0 c0) (.slice a1 n1 c1) (.slice a2 n2 c2) (.slice a3 n3 c3) P) := dv
  have B2 : Hid (Below w.heap.size w w2) := by
    have h1 := SE.out
    have h2 := Z0.out
    have h3 := BE.out
    have h4 := B1.out.size
    have hx := on A0.out B1.out
    exact hx.trans (tn.below (by omega) hx.size)
  have R2 : Hid (Bk w2 s0 #[.slice none 0 0, .slice none 0 0, .slice none 0 0, .slice none 0 0] 29) := R1.out.turn tn (by have := Z0.out; have := BE.out; omega)
  have S2 : Hid (Src w2 b k a len cap zs ∧ k ≤ 200) := ⟨s2, by omega⟩
  have L1 : Hid (s0 < b ∧ b < w1.heap.size ∧ w1.heap.size ≤ w2.heap.size) := ⟨by have := Z0.out; have := BE.out; omega, SR.out.here, tn.size⟩
  clear dv tn s2 hk
  go_upto_region 3 with fail
  have A2 : Hid (Below w2.heap.size w2 (w2.alloc (.cells #[.slice a0 n0 c0, .slice a1 n1 c1, .slice a2 n2 c2, .slice a3 n3 c3] 29))) := al (Below.refl _ _) _
  obtain ⟨t, ht⟩ : ∃ t, w2.heap.size = t := ⟨_, rfl⟩
  have TE : Hid (w2.heap.size = t) := ht
  have TV : Hid (Bk (w2.alloc (.cells #[.slice a0 n0 c0, .slice a1 n1 c1, .slice a2 n2 c2, .slice a3 n3 c3] 29)) t #[.slice a0 n0 c0, .slice a1 n1 c1, .slice a2 n2 c2, .slice a3 n3 c3] 29) := by show Bk _ _ _ _; rw [← ht]; exact Bk.new _ _ _
  rw [ht]
  generalize w2.alloc (.cells #[.slice a0 n0 c0, .slice a1 n1 c1, .slice a2 n2 c2, .slice a3 n3 c3] 29) = W3 at *
  clear ht
  have TB : Hid (Bk W3.drew t #[.slice a0 n0 c0, .slice a1 n1 c1, .slice a2 n2 c2, .slice a3 n3 c3] 29) := TV.out.keep (Below.refl _ _).drew
  have RB : Hid (Bk W3.drew s0 #[.slice none 0 0, .slice none 0 0, .slice none 0 0, .slice none 0 0] 29) := (R2.out.keep A2.out).keep (Below.refl _ _).drew
  have DVX : Hid (Dv W3.drew w1.heap.size (.slice a0 n0 c0) (.slice a1 n1 c1) (.slice a2 n2 c2) (.slice a3 n3 c3) P) := (DV.out.keep A2.out).keep (Below.refl _ _).drew
  have BX : Hid (Below w.heap.size w W3.drew) := (on B2.out A2.out).drew
  have SX : Hid (Src W3.drew b k a len cap zs) := (S2.out.1.turn (Turn.of_below (b := w2.heap.size) A2.out) (Nat.le_refl _)).drewed
  have TS : Hid (t ≠ s0) := by have := TE.out; have := L1.out; show _ ≠ _; omega
  refine wp_region_held (S := fun w' => Bk w' t #[.slice a0 n0 c0, .slice a1 n1 c1, .slice a2 n2 c2, .slice a3 n3 c3] 29) (by kernel_rfl) ?_
  change wpAnyH _ _ _ _ _ _ _ _ (World.drew _)
  generalize W3.drew = u0 at *
  refine wpAnyH_take (i := 0) (v := (.agg #[.slice a0 n0 c0, .slice a1 n1 c1, .slice a2 n2 c2, .slice a3 n3 c3])) rfl (by kernel_rfl) (by kernel_rfl) (by kernel_rfl) (fun _ _ _ h => h) (Or.inl ⟨by rfl, fun w' hs => by have y0 := hs.cell (i := 0) rfl; have y1 := hs.cell (i := 1) rfl; have y2 := hs.cell (i := 2) rfl; have y3 := hs.cell (i := 3) rfl; go_simp⟩) TB.out ?_
  change wpAnyH _ _ _ _ _ _ _ (Act.put _ (some 10) _) _
  simp only [Act.put, List.setIfInBounds_toArray, List.set_cons_zero, List.set_cons_succ]
  refine wpAnyH_take (i := 1) (v := (.pointer (some ⟨b, 0, none⟩))) rfl (by kernel_rfl) (by kernel_rfl) (by kernel_rfl) (fun _ _ _ h => h) (Or.inl ⟨by rfl, fun w' hs => by go_simp⟩) TB.out ?_
  change wpAnyH _ _ _ _ _ _ _ (Act.put _ (some 11) _) _
  simp only [Act.put, List.setIfInBounds_toArray, List.set_cons_zero, List.set_cons_succ]
  refine wpAnyH_take (i := 2) (v := (.pointer (some ⟨b, 0, none⟩))) rfl (by kernel_rfl) (by kernel_rfl) (by kernel_rfl) (fun _ _ _ h => h) (Or.inl ⟨by rfl, fun w' hs => by go_simp⟩) TB.out ?_
  change wpAnyH _ _ _ _ _ _ _ (Act.put _ (some 12) _) _
  simp only [Act.put, List.setIfInBounds_toArray, List.set_cons_zero, List.set_cons_succ]
  refine wpAnyH_take (i := 4) (v := (.pointer (some ⟨b, 0, none⟩))) rfl (by kernel_rfl) (by kernel_rfl) (by kernel_rfl) (fun _ _ _ h => h) (Or.inl ⟨by rfl, fun w' hs => by go_simp⟩) TB.out ?_
  change wpAnyH _ _ _ _ _ _ _ (Act.put _ (some 14) _) _
  simp only [Act.put, List.setIfInBounds_toArray, List.set_cons_zero, List.set_cons_succ]
  refine wpAnyH_ready (rs := [3]) (by kernel_rfl) (by simp) ?_
  refine AllReadyH.cons rfl (fun K hK => ?_) AllReadyH.nil
  rw [if_pos (by rfl)]
  go_simp
  refine (next_any SX.out (by have := S2.out.2; omega) _).mono ?_
  rintro e u1 ⟨x, rfl, -, -, tn, sn⟩
  replace TB : Hid (Bk u1 t #[.slice a0 n0 c0, .slice a1 n1 c1, .slice a2 n2 c2, .slice a3 n3 c3] 29) := TB.out.turn tn (by have := TE.out; have := L1.out; omega)
  replace RB : Hid (Bk u1 s0 #[.slice none 0 0, .slice none 0 0, .slice none 0 0, .slice none 0 0] 29) := RB.out.turn tn (by have := L1.out; omega)
  replace DVX : Hid (Dv u1 w1.heap.size (.slice a0 n0 c0) (.slice a1 n1 c1) (.slice a2 n2 c2) (.slice a3 n3 c3) P) := DVX.out.turn tn L1.out.2.1
  replace BX : Hid (Below w.heap.size w u1) := BX.out.trans (tn.below (by have := SE.out; have := L1.out; omega) BX.out.size)
  replace SX : Hid (Src u1 b _ a len cap zs) := sn
  clear tn sn
  refine hK.out _ _ TB.out (fun _ => ?_)
  clear hK K
  refine wpAnyH_ready (rs := [5]) (by kernel_rfl) (by simp) ?_
  refine AllReadyH.cons rfl (fun K hK => ?_) AllReadyH.nil
  rw [if_pos (by rfl)]
  go_simp
  refine (next_any SX.out (by have := S2.out.2; omega) _).mono ?_
  rintro e u2 ⟨y, rfl, -, -, tn, sn⟩
  replace TB : Hid (Bk u2 t #[.slice a0 n0 c0, .slice a1 n1 c1, .slice a2 n2 c2, .slice a3 n3 c3] 29) := TB.out.turn tn (by have := TE.out; have := L1.out; omega)
  replace RB : Hid (Bk u2 s0 #[.slice none 0 0, .slice none 0 0, .slice none 0 0, .slice none 0 0] 29) := RB.out.turn tn (by have := L1.out; omega)
  replace DVX : Hid (Dv u2 w1.heap.size (.slice a0 n0 c0) (.slice a1 n1 c1) (.slice a2 n2 c2) (.slice a3 n3 c3) P) := DVX.out.turn tn L1.out.2.1
  replace BX : Hid (Below w.heap.size w u2) := BX.out.trans (tn.below (by have := SE.out; have := L1.out; omega) BX.out.size)
  replace SX : Hid (Src u2 b _ a len cap zs) := sn
  clear tn sn
  refine hK.out _ _ TB.out (fun _ => ?_)
  clear hK K
  refine wpAnyH_ready (rs := [6]) (by kernel_rfl) (by simp) ?_
  refine AllReadyH.cons rfl (fun K hK => ?_) AllReadyH.nil
  rw [if_pos (by rfl)]
  go_simp
  have bq : Below u2.heap.size u2 (u2.alloc (.cells #[.int .i64 x, .int .i64 y, .int .i64 1000000, .int .i64 1000001, .int .i64 0, .int .i64 (-1)] 2)) := al (Below.refl _ _) _
  have LD : Hid (∀ i, i < 6 → ∃ v : Int, (u2.alloc (.cells #[.int .i64 x, .int .i64 y, .int .i64 1000000, .int .i64 1000001, .int .i64 0, .int .i64 (-1)] 2)).cell? ⟨u2.heap.size, i, none⟩ = some (.int .i64 v) ∧ True) := laid_at u2 [x, y, 1000000, 1000001, 0, (-1)]
  have LL : Hid (u2.heap.size < (u2.alloc (.cells #[.int .i64 x, .int .i64 y, .int .i64 1000000, .int .i64 1000001, .int .i64 0, .int .i64 (-1)] 2)).heap.size ∧ u2.heap.size ≠ b) := ⟨by simp, by have := SX.out.here; omega⟩
  replace TB : Hid (Bk (u2.alloc (.cells #[.int .i64 x, .int .i64 y, .int .i64 1000000, .int .i64 1000001, .int .i64 0, .int .i64 (-1)] 2)) t #[.slice a0 n0 c0, .slice a1 n1 c1, .slice a2 n2 c2, .slice a3 n3 c3] 29) := TB.out.keep bq
  replace RB : Hid (Bk (u2.alloc (.cells #[.int .i64 x, .int .i64 y, .int .i64 1000000, .int .i64 1000001, .int .i64 0, .int .i64 (-1)] 2)) s0 #[.slice none 0 0, .slice none 0 0, .slice none 0 0, .slice none 0 0] 29) := RB.out.keep bq
  replace DVX : Hid (Dv (u2.alloc (.cells #[.int .i64 x, .int .i64 y, .int .i64 1000000, .int .i64 1000001, .int .i64 0, .int .i64 (-1)] 2)) w1.heap.size (.slice a0 n0 c0) (.slice a1 n1 c1) (.slice a2 n2 c2) (.slice a3 n3 c3) P) := DVX.out.keep bq
  replace BX : Hid (Below w.heap.size w (u2.alloc (.cells #[.int .i64 x, .int .i64 y, .int .i64 1000000, .int .i64 1000001, .int .i64 0, .int .i64 (-1)] 2))) := on BX.out bq
  replace SX : Hid (Src (u2.alloc (.cells #[.int .i64 x, .int .i64 y, .int .i64 1000000, .int .i64 1000001, .int .i64 0, .int .i64 (-1)] 2)) b _ a len cap zs) := SX.out.alloc _
  generalize (u2.alloc (.cells #[.int .i64 x, .int .i64 y, .int .i64 1000000, .int .i64 1000001, .int .i64 0, .int .i64 (-1)] 2)) = ul at *
  generalize u2.heap.size = gl at *
  clear bq
  refine hK.out _ _ TB.out (fun _ => ?_)
  clear hK K
  refine wpAnyH_ready (rs := [7]) (by kernel_rfl) (by simp) ?_
  refine AllReadyH.cons rfl (fun K hK => ?_) AllReadyH.nil
  rw [if_pos (by rfl)]
  go_simp
  refine (pick_any SX.out (by have := S2.out.2; omega) (fun _ => True) gl 6 (by omega) (by omega) LL.out.1 LL.out.2 LD.out).mono ?_
  rintro e u3 ⟨cl, rfl, -, tn, sn⟩
  replace TB : Hid (Bk u3 t #[.slice a0 n0 c0, .slice a1 n1 c1, .slice a2 n2 c2, .slice a3 n3 c3] 29) := TB.out.turn tn (by have := TE.out; have := L1.out; omega)
  replace RB : Hid (Bk u3 s0 #[.slice none 0 0, .slice none 0 0, .slice none 0 0, .slice none 0 0] 29) := RB.out.turn tn (by have := L1.out; omega)
  replace DVX : Hid (Dv u3 w1.heap.size (.slice a0 n0 c0) (.slice a1 n1 c1) (.slice a2 n2 c2) (.slice a3 n3 c3) P) := DVX.out.turn tn L1.out.2.1
  replace BX : Hid (Below w.heap.size w u3) := BX.out.trans (tn.below (by have := SE.out; have := L1.out; omega) BX.out.size)
  replace SX : Hid (Src u3 b _ a len cap zs) := sn
  clear tn sn
  refine hK.out _ _ TB.out (fun _ => ?_)
  clear hK K
  refine wpAnyH_ready (rs := [8]) (by kernel_rfl) (by simp) ?_
  refine AllReadyH.cons rfl (fun K hK => ?_) AllReadyH.nil
  rw [if_pos (by rfl)]
  have p0 := RB.out.cell (i := 0) rfl
  have f0 := RB.out.free 0
  have p1 := RB.out.cell (i := 1) rfl
  have f1 := RB.out.free 1
  have p2 := RB.out.cell (i := 2) rfl
  have f2 := RB.out.free 2
  have p3 := RB.out.cell (i := 3) rfl
  have f3 := RB.out.free 3
  have lt := RB.out.lt
  go_simp
  clear lt p0 f0 p1 f1 p2 f2 p3 f3
  have R9 : Hid (Bk ((((u3.setCell ⟨s0, 0, none⟩ (.slice a0 n0 c0)).setCell ⟨s0, 1, none⟩ (.slice a1 n1 c1)).setCell ⟨s0, 2, none⟩ (.slice a2 n2 c2)).setCell ⟨s0, 3, none⟩ (.slice a3 n3 c3)) s0 #[.slice a0 n0 c0, .slice a1 n1 c1, .slice a2 n2 c2, .slice a3 n3 c3] 29) := fourB RB.out _ _ _ _
  have D9 : Hid (Dv ((((u3.setCell ⟨s0, 0, none⟩ (.slice a0 n0 c0)).setCell ⟨s0, 1, none⟩ (.slice a1 n1 c1)).setCell ⟨s0, 2, none⟩ (.slice a2 n2 c2)).setCell ⟨s0, 3, none⟩ (.slice a3 n3 c3)) w.heap.size (.slice a0 n0 c0) (.slice a1 n1 c1) (.slice a2 n2 c2) (.slice a3 n3 c3) P) := by
    have b0 := RB.out
    have b1 : Bk (u3.setCell ⟨s0, 0, none⟩ (.slice a0 n0 c0)) s0 #[.slice a0 n0 c0, .slice none 0 0, .slice none 0 0, .slice none 0 0] 29 := b0.set 0 _
    have b2 : Bk ((u3.setCell ⟨s0, 0, none⟩ (.slice a0 n0 c0)).setCell ⟨s0, 1, none⟩ (.slice a1 n1 c1)) s0 #[.slice a0 n0 c0, .slice a1 n1 c1, .slice none 0 0, .slice none 0 0] 29 := b1.set 1 _
    have b3 : Bk (((u3.setCell ⟨s0, 0, none⟩ (.slice a0 n0 c0)).setCell ⟨s0, 1, none⟩ (.slice a1 n1 c1)).setCell ⟨s0, 2, none⟩ (.slice a2 n2 c2)) s0 #[.slice a0 n0 c0, .slice a1 n1 c1, .slice a2 n2 c2, .slice none 0 0] 29 := b2.set 2 _
    exact ((((DVX.out.mono (base' := w.heap.size) (by have := SE.out; have := L1.out; omega)).put b0 _).put b1 _).put b2 _).put b3 _
  have B9 : Hid (Below w.heap.size w ((((u3.setCell ⟨s0, 0, none⟩ (.slice a0 n0 c0)).setCell ⟨s0, 1, none⟩ (.slice a1 n1 c1)).setCell ⟨s0, 2, none⟩ (.slice a2 n2 c2)).setCell ⟨s0, 3, none⟩ (.slice a3 n3 c3))) := ((((BX.out).setCell (by show w.heap.size ≤ s0; exact S0.out) _).setCell (by show w.heap.size ≤ s0; exact S0.out) _).setCell (by show w.heap.size ≤ s0; exact S0.out) _).setCell (by show w.heap.size ≤ s0; exact S0.out) _
  have T9 : Hid (Bk ((((u3.setCell ⟨s0, 0, none⟩ (.slice a0 n0 c0)).setCell ⟨s0, 1, none⟩ (.slice a1 n1 c1)).setCell ⟨s0, 2, none⟩ (.slice a2 n2 c2)).setCell ⟨s0, 3, none⟩ (.slice a3 n3 c3)) t #[.slice a0 n0 c0, .slice a1 n1 c1, .slice a2 n2 c2, .slice a3 n3 c3] 29) := (((TB.out.put ⟨s0, 0, none⟩ _ TS.out).put ⟨s0, 1, none⟩ _ TS.out).put ⟨s0, 2, none⟩ _ TS.out).put ⟨s0, 3, none⟩ _ TS.out
  generalize ((((u3.setCell ⟨s0, 0, none⟩ (.slice a0 n0 c0)).setCell ⟨s0, 1, none⟩ (.slice a1 n1 c1)).setCell ⟨s0, 2, none⟩ (.slice a2 n2 c2)).setCell ⟨s0, 3, none⟩ (.slice a3 n3 c3)) = w9 at *
  refine hK.out _ _ T9.out (fun _ => ?_)
  clear hK K
  refine wpAnyH_take (i := 9) (v := (.int .i64 cl)) rfl (by kernel_rfl) (by kernel_rfl) (by kernel_rfl) (fun _ _ _ h => h) (Or.inl ⟨by rfl, fun w' hs => by go_simp⟩) T9.out ?_
  change wpAnyH _ _ _ _ _ _ _ (Act.put _ (some 3) _) _
  simp only [Act.put, List.setIfInBounds_toArray, List.set_cons_zero, List.set_cons_succ]
  refine wpAnyH_done (by kernel_rfl) ?_ _
  have z0 := R9.out.cell (i := 0) rfl
  have z1 := R9.out.cell (i := 1) rfl
  have z2 := R9.out.cell (i := 2) rfl
  have z3 := R9.out.cell (i := 3) rfl
  go_wp2_with fail
  exact bodyPost_ret (v := .tuple #[.agg #[.slice a0 n0 c0, .slice a1 n1 c1, .slice a2 n2 c2, .slice a3 n3 c3], .int .i64 cl]) (by simp [results, Tryd.results10, go_sem, z0, z1, z2, z3]) rfl ⟨_, _, _, _, P, cl, rfl, D9.out, B9.out⟩
set_option maxRecDepth 20000 in
set_option maxHeartbeats 8000000 in
theorem drawTurnsBefore {w : World} {a : Option Addr} {len cap : Nat} {zs : List Int} (hr : IsRow .u8 w a len cap zs) :
    Calls Tryd.prog 5 #[.slice a len cap] w fun e w' => ∃ v0 v1 v2 v3 P cl gu, e = .returned (.tuple #[.agg #[v0, v1, v2, v3], .int .i64 cl, .int .i64 gu]) ∧ Dv w' w.heap.size v0 v1 v2 v3 P ∧ Below w.heap.size w w' := by
  have HR : Hid (IsRow .u8 w a len cap zs) := hr
  obtain ⟨s0, hs0⟩ : ∃ s, w.heap.size = s := ⟨_, rfl⟩
  have S0 : Hid (w.heap.size ≤ s0) := by show _ ≤ _; omega
  have SE : Hid (w.heap.size = s0) := hs0
  clear hr
  go_enter Tryd.func5, Tryd.ntmps5
  go_wp2_with fail
  have A0 : Hid (Below w.heap.size w (w.alloc (.cells #[.slice none 0 0, .slice none 0 0, .slice none 0 0, .slice none 0 0] 29))) := al (Below.refl _ _) _
  have R0 : Hid (Bk (w.alloc (.cells #[.slice none 0 0, .slice none 0 0, .slice none 0 0, .slice none 0 0] 29)) s0 #[.slice none 0 0, .slice none 0 0, .slice none 0 0, .slice none 0 0] 29) := by show Bk _ _ _ _; rw [← hs0]; exact Bk.new _ _ _
  have Z0 : Hid (s0 + 1 = (w.alloc (.cells #[.slice none 0 0, .slice none 0 0, .slice none 0 0, .slice none 0 0] 29)).heap.size) := by show _ = _; simp; omega
  try rw [hs0]
  generalize w.alloc (.cells #[.slice none 0 0, .slice none 0 0, .slice none 0 0, .slice none 0 0] 29) = W at *
  clear hs0
  refine (drawTurnAt (HR.out.below A0.out)).mono ?_
  rintro e w2 ⟨_, _, _, _, P, cl, rfl, dv, b2⟩
  obtain ⟨a0, c0, a1, c1, a2, c2, a3, c3, e0, e1, e2, e3⟩ := dv.shape
  subst e0 e1 e2 e3
  obtain ⟨n0, hn0⟩ : ∃ n, P.own.length = n := ⟨_, rfl⟩
  obtain ⟨n1, hn1⟩ : ∃ n, P.lanes.length = n := ⟨_, rfl⟩
  obtain ⟨n2, hn2⟩ : ∃ n, P.bells.length = n := ⟨_, rfl⟩
  obtain ⟨n3, hn3⟩ : ∃ n, P.plan.length = n := ⟨_, rfl⟩
  rw [hn0, hn1, hn2, hn3] at dv ⊢
  clear hn0 hn1 hn2 hn3
  have DV : Hid (Dv w2 W.heap.size (.slice a0 n0 c0) (.slice a1 n1 c1) (.slice a2 n2 c2) (.slice a3 n3 c3) P) := dv
  have B2 : Hid (Below w.heap.size w w2) := on A0.out b2
  have R2 : Hid (Bk w2 s0 #[.slice none 0 0, .slice none 0 0, .slice none 0 0, .slice none 0 0] 29) := R0.out.keep b2
  have W2 : Hid (W.heap.size ≤ w2.heap.size) := b2.size
  clear dv b2
  go_upto_region 2 with fail
  have A2 : Hid (Below w2.heap.size w2 (w2.alloc (.cells #[.slice a0 n0 c0, .slice a1 n1 c1, .slice a2 n2 c2, .slice a3 n3 c3] 29))) := al (Below.refl _ _) _
  obtain ⟨t, ht⟩ : ∃ t, w2.heap.size = t := ⟨_, rfl⟩
  have TE : Hid (w2.heap.size = t ∧ t + 1 = (w2.alloc (.cells #[.slice a0 n0 c0, .slice a1 n1 c1, .slice a2 n2 c2, .slice a3 n3 c3] 29)).heap.size) := ⟨ht, by simp; omega⟩
  have TV : Hid (Bk (w2.alloc (.cells #[.slice a0 n0 c0, .slice a1 n1 c1, .slice a2 n2 c2, .slice a3 n3 c3] 29)) t #[.slice a0 n0 c0, .slice a1 n1 c1, .slice a2 n2 c2, .slice a3 n3 c3] 29) := by show Bk _ _ _ _; rw [← ht]; exact Bk.new _ _ _
  rw [ht]
  generalize w2.alloc (.cells #[.slice a0 n0 c0, .slice a1 n1 c1, .slice a2 n2 c2, .slice a3 n3 c3] 29) = W3 at *
  clear ht
  go_wp2_with fail
  refine (source_any (HR.out.below (on B2.out A2.out))).mono ?_
  rintro e w1 ⟨rfl, b1, sr⟩
  obtain ⟨b, hb⟩ : ∃ b, W3.heap.size = b := ⟨_, rfl⟩
  have L1 : Hid (s0 < t ∧ t < b ∧ W.heap.size ≤ t) := ⟨by have := TE.out; have := W2.out; have := Z0.out; omega, by have := TE.out; omega, by have := TE.out; have := W2.out; omega⟩
  have LW : Hid (W.heap.size = s0 + 1) := Z0.out.symm
  rw [hb] at sr ⊢
  have SR : Hid (Src w1 b 0 a len cap zs) := sr
  have T1 : Hid (Bk w1 t #[.slice a0 n0 c0, .slice a1 n1 c1, .slice a2 n2 c2, .slice a3 n3 c3] 29) := TV.out.keep b1
  have R1 : Hid (Bk w1 s0 #[.slice none 0 0, .slice none 0 0, .slice none 0 0, .slice none 0 0] 29) := (R2.out.keep A2.out).keep b1
  have D1 : Hid (Dv w1 W.heap.size (.slice a0 n0 c0) (.slice a1 n1 c1) (.slice a2 n2 c2) (.slice a3 n3 c3) P) := (DV.out.keep A2.out).keep b1
  have B1 : Hid (Below w.heap.size w w1) := on (on B2.out A2.out) b1
  have BWE : Hid (W3.heap.size = b) := hb
  have D3 : Hid (Dv W3 W.heap.size (.slice a0 n0 c0) (.slice a1 n1 c1) (.slice a2 n2 c2) (.slice a3 n3 c3) P) := DV.out.keep A2.out
  have BW : Hid (Below W3.heap.size W3 w1.drew) := Below.drew b1
  clear b1 sr hb
  go_upto_region 3 with fail
  have TB : Hid (Bk w1.drew t #[.slice a0 n0 c0, .slice a1 n1 c1, .slice a2 n2 c2, .slice a3 n3 c3] 29) := T1.out.keep (Below.refl _ _).drew
  have RB : Hid (Bk w1.drew s0 #[.slice none 0 0, .slice none 0 0, .slice none 0 0, .slice none 0 0] 29) := R1.out.keep (Below.refl _ _).drew
  have DVX : Hid (Dv w1.drew W.heap.size (.slice a0 n0 c0) (.slice a1 n1 c1) (.slice a2 n2 c2) (.slice a3 n3 c3) P) := D1.out.keep (Below.refl _ _).drew
  have BX : Hid (Below w.heap.size w w1.drew) := B1.out.drew
  have SX : Hid (Src w1.drew b 0 a len cap zs) := SR.out.drewed
  have TS : Hid (t ≠ s0) := by have := L1.out; show _ ≠ _; omega
  refine wp_region_held (S := fun w' => Bk w' t #[.slice a0 n0 c0, .slice a1 n1 c1, .slice a2 n2 c2, .slice a3 n3 c3] 29) (by kernel_rfl) ?_
  change wpAnyH _ _ _ _ _ _ _ _ (World.drew _)
  generalize w1.drew = u0 at *
  refine wpAnyH_take (i := 0) (v := (.agg #[.slice a0 n0 c0, .slice a1 n1 c1, .slice a2 n2 c2, .slice a3 n3 c3])) rfl (by kernel_rfl) (by kernel_rfl) (by kernel_rfl) (fun _ _ _ h => h) (Or.inl ⟨by rfl, fun w' hs => by have y0 := hs.cell (i := 0) rfl; have y1 := hs.cell (i := 1) rfl; have y2 := hs.cell (i := 2) rfl; have y3 := hs.cell (i := 3) rfl; go_simp⟩) TB.out ?_
  change wpAnyH _ _ _ _ _ _ _ (Act.put _ (some 15) _) _
  simp only [Act.put, List.setIfInBounds_toArray, List.set_cons_zero, List.set_cons_succ]
  refine wpAnyH_take (i := 1) (v := (.int .i64 cl)) rfl (by kernel_rfl) (by kernel_rfl) (by kernel_rfl) (fun _ _ _ h => h) (Or.inl ⟨by rfl, fun w' hs => by go_simp⟩) TB.out ?_
  change wpAnyH _ _ _ _ _ _ _ (Act.put _ (some 16) _) _
  simp only [Act.put, List.setIfInBounds_toArray, List.set_cons_zero, List.set_cons_succ]
  refine wpAnyH_take (i := 2) (v := (.pointer (some ⟨b, 0, none⟩))) rfl (by kernel_rfl) (by kernel_rfl) (by kernel_rfl) (fun _ _ _ h => h) (Or.inl ⟨by rfl, fun w' hs => by go_simp⟩) TB.out ?_
  change wpAnyH _ _ _ _ _ _ _ (Act.put _ (some 17) _) _
  simp only [Act.put, List.setIfInBounds_toArray, List.set_cons_zero, List.set_cons_succ]
  refine wpAnyH_ready (rs := [3]) (by kernel_rfl) (by simp) ?_
  refine AllReadyH.cons rfl (fun K hK => ?_) AllReadyH.nil
  rw [if_pos (by rfl)]
  go_simp
  have bq : Below u0.heap.size u0 (u0.alloc (.cells #[.int .i64 0, .int .i64 1, .int .i64 2, .int .i64 0, .int .i64 3, .int .i64 (-1)] 2)) := al (Below.refl _ _) _
  have LD : Hid (∀ i, i < 6 → ∃ v : Int, (u0.alloc (.cells #[.int .i64 0, .int .i64 1, .int .i64 2, .int .i64 0, .int .i64 3, .int .i64 (-1)] 2)).cell? ⟨u0.heap.size, i, none⟩ = some (.int .i64 v) ∧ True) := laid_at u0 [0, 1, 2, 0, 3, (-1)]
  have LL : Hid (u0.heap.size < (u0.alloc (.cells #[.int .i64 0, .int .i64 1, .int .i64 2, .int .i64 0, .int .i64 3, .int .i64 (-1)] 2)).heap.size ∧ u0.heap.size ≠ b) := ⟨by simp, by have := SX.out.here; omega⟩
  replace TB : Hid (Bk (u0.alloc (.cells #[.int .i64 0, .int .i64 1, .int .i64 2, .int .i64 0, .int .i64 3, .int .i64 (-1)] 2)) t #[.slice a0 n0 c0, .slice a1 n1 c1, .slice a2 n2 c2, .slice a3 n3 c3] 29) := TB.out.keep bq
  replace RB : Hid (Bk (u0.alloc (.cells #[.int .i64 0, .int .i64 1, .int .i64 2, .int .i64 0, .int .i64 3, .int .i64 (-1)] 2)) s0 #[.slice none 0 0, .slice none 0 0, .slice none 0 0, .slice none 0 0] 29) := RB.out.keep bq
  replace DVX : Hid (Dv (u0.alloc (.cells #[.int .i64 0, .int .i64 1, .int .i64 2, .int .i64 0, .int .i64 3, .int .i64 (-1)] 2)) W.heap.size (.slice a0 n0 c0) (.slice a1 n1 c1) (.slice a2 n2 c2) (.slice a3 n3 c3) P) := DVX.out.keep bq
  replace BX : Hid (Below w.heap.size w (u0.alloc (.cells #[.int .i64 0, .int .i64 1, .int .i64 2, .int .i64 0, .int .i64 3, .int .i64 (-1)] 2))) := on BX.out bq
  replace BW : Hid (Below W3.heap.size W3 (u0.alloc (.cells #[.int .i64 0, .int .i64 1, .int .i64 2, .int .i64 0, .int .i64 3, .int .i64 (-1)] 2))) := on BW.out bq
  replace SX : Hid (Src (u0.alloc (.cells #[.int .i64 0, .int .i64 1, .int .i64 2, .int .i64 0, .int .i64 3, .int .i64 (-1)] 2)) b _ a len cap zs) := SX.out.alloc _
  generalize (u0.alloc (.cells #[.int .i64 0, .int .i64 1, .int .i64 2, .int .i64 0, .int .i64 3, .int .i64 (-1)] 2)) = ul at *
  generalize u0.heap.size = gl at *
  clear bq
  refine hK.out _ _ TB.out (fun _ => ?_)
  clear hK K
  refine wpAnyH_ready (rs := [4]) (by kernel_rfl) (by simp) ?_
  refine AllReadyH.cons rfl (fun K hK => ?_) AllReadyH.nil
  rw [if_pos (by rfl)]
  go_simp
  refine (pick_any SX.out (by omega) (fun _ => True) gl 6 (by omega) (by omega) LL.out.1 LL.out.2 LD.out).mono ?_
  rintro e u1 ⟨gu, rfl, -, tn, sn⟩
  replace TB : Hid (Bk u1 t #[.slice a0 n0 c0, .slice a1 n1 c1, .slice a2 n2 c2, .slice a3 n3 c3] 29) := TB.out.turn tn (by have := L1.out; omega)
  replace RB : Hid (Bk u1 s0 #[.slice none 0 0, .slice none 0 0, .slice none 0 0, .slice none 0 0] 29) := RB.out.turn tn (by have := L1.out; omega)
  replace DVX : Hid (Dv u1 W.heap.size (.slice a0 n0 c0) (.slice a1 n1 c1) (.slice a2 n2 c2) (.slice a3 n3 c3) P) := D3.out.keep (BW.out.trans (tn.below (by have := BWE.out; omega) BW.out.size))
  replace BX : Hid (Below w.heap.size w u1) := BX.out.trans (tn.below (by have := SE.out; have := L1.out; omega) BX.out.size)
  replace SX : Hid (Src u1 b _ a len cap zs) := sn
  clear tn sn
  refine hK.out _ _ TB.out (fun _ => ?_)
  clear hK K
  refine wpAnyH_ready (rs := [5]) (by kernel_rfl) (by simp) ?_
  refine AllReadyH.cons rfl (fun K hK => ?_) AllReadyH.nil
  rw [if_pos (by rfl)]
  have p0 := RB.out.cell (i := 0) rfl
  have f0 := RB.out.free 0
  have p1 := RB.out.cell (i := 1) rfl
  have f1 := RB.out.free 1
  have p2 := RB.out.cell (i := 2) rfl
  have f2 := RB.out.free 2
  have p3 := RB.out.cell (i := 3) rfl
  have f3 := RB.out.free 3
  have lt := RB.out.lt
  go_simp
  clear lt p0 f0 p1 f1 p2 f2 p3 f3
  have R9 : Hid (Bk ((((u1.setCell ⟨s0, 0, none⟩ (.slice a0 n0 c0)).setCell ⟨s0, 1, none⟩ (.slice a1 n1 c1)).setCell ⟨s0, 2, none⟩ (.slice a2 n2 c2)).setCell ⟨s0, 3, none⟩ (.slice a3 n3 c3)) s0 #[.slice a0 n0 c0, .slice a1 n1 c1, .slice a2 n2 c2, .slice a3 n3 c3] 29) := fourB RB.out _ _ _ _
  have D9 : Hid (Dv ((((u1.setCell ⟨s0, 0, none⟩ (.slice a0 n0 c0)).setCell ⟨s0, 1, none⟩ (.slice a1 n1 c1)).setCell ⟨s0, 2, none⟩ (.slice a2 n2 c2)).setCell ⟨s0, 3, none⟩ (.slice a3 n3 c3)) w.heap.size (.slice a0 n0 c0) (.slice a1 n1 c1) (.slice a2 n2 c2) (.slice a3 n3 c3) P) := by
    have b0 := RB.out
    have b1 : Bk (u1.setCell ⟨s0, 0, none⟩ (.slice a0 n0 c0)) s0 #[.slice a0 n0 c0, .slice none 0 0, .slice none 0 0, .slice none 0 0] 29 := b0.set 0 _
    have b2 : Bk ((u1.setCell ⟨s0, 0, none⟩ (.slice a0 n0 c0)).setCell ⟨s0, 1, none⟩ (.slice a1 n1 c1)) s0 #[.slice a0 n0 c0, .slice a1 n1 c1, .slice none 0 0, .slice none 0 0] 29 := b1.set 1 _
    have b3 : Bk (((u1.setCell ⟨s0, 0, none⟩ (.slice a0 n0 c0)).setCell ⟨s0, 1, none⟩ (.slice a1 n1 c1)).setCell ⟨s0, 2, none⟩ (.slice a2 n2 c2)) s0 #[.slice a0 n0 c0, .slice a1 n1 c1, .slice a2 n2 c2, .slice none 0 0] 29 := b2.set 2 _
    exact ((((DVX.out.mono (base' := w.heap.size) (by have := SE.out; have := LW.out; omega)).put b0 _).put b1 _).put b2 _).put b3 _
  have B9 : Hid (Below w.heap.size w ((((u1.setCell ⟨s0, 0, none⟩ (.slice a0 n0 c0)).setCell ⟨s0, 1, none⟩ (.slice a1 n1 c1)).setCell ⟨s0, 2, none⟩ (.slice a2 n2 c2)).setCell ⟨s0, 3, none⟩ (.slice a3 n3 c3))) := ((((BX.out).setCell (by show w.heap.size ≤ s0; exact S0.out) _).setCell (by show w.heap.size ≤ s0; exact S0.out) _).setCell (by show w.heap.size ≤ s0; exact S0.out) _).setCell (by show w.heap.size ≤ s0; exact S0.out) _
  have T9 : Hid (Bk ((((u1.setCell ⟨s0, 0, none⟩ (.slice a0 n0 c0)).setCell ⟨s0, 1, none⟩ (.slice a1 n1 c1)).setCell ⟨s0, 2, none⟩ (.slice a2 n2 c2)).setCell ⟨s0, 3, none⟩ (.slice a3 n3 c3)) t #[.slice a0 n0 c0, .slice a1 n1 c1, .slice a2 n2 c2, .slice a3 n3 c3] 29) := (((TB.out.put ⟨s0, 0, none⟩ _ TS.out).put ⟨s0, 1, none⟩ _ TS.out).put ⟨s0, 2, none⟩ _ TS.out).put ⟨s0, 3, none⟩ _ TS.out
  generalize ((((u1.setCell ⟨s0, 0, none⟩ (.slice a0 n0 c0)).setCell ⟨s0, 1, none⟩ (.slice a1 n1 c1)).setCell ⟨s0, 2, none⟩ (.slice a2 n2 c2)).setCell ⟨s0, 3, none⟩ (.slice a3 n3 c3)) = w9 at *
  refine hK.out _ _ T9.out (fun _ => ?_)
  clear hK K
  refine wpAnyH_take (i := 6) (v := (.int .i64 cl)) rfl (by kernel_rfl) (by kernel_rfl) (by kernel_rfl) (fun _ _ _ h => h) (Or.inl ⟨by rfl, fun w' hs => by go_simp⟩) T9.out ?_
  change wpAnyH _ _ _ _ _ _ _ (Act.put _ (some 3) _) _
  simp only [Act.put, List.setIfInBounds_toArray, List.set_cons_zero, List.set_cons_succ]
  refine wpAnyH_take (i := 7) (v := (.int .i64 gu)) rfl (by kernel_rfl) (by kernel_rfl) (by kernel_rfl) (fun _ _ _ h => h) (Or.inl ⟨by rfl, fun w' hs => by go_simp⟩) T9.out ?_
  change wpAnyH _ _ _ _ _ _ _ (Act.put _ (some 4) _) _
  simp only [Act.put, List.setIfInBounds_toArray, List.set_cons_zero, List.set_cons_succ]
  refine wpAnyH_done (by kernel_rfl) ?_ _
  have z0 := R9.out.cell (i := 0) rfl
  have z1 := R9.out.cell (i := 1) rfl
  have z2 := R9.out.cell (i := 2) rfl
  have z3 := R9.out.cell (i := 3) rfl
  go_wp2_with fail
  exact bodyPost_ret (v := .tuple #[.agg #[.slice a0 n0 c0, .slice a1 n1 c1, .slice a2 n2 c2, .slice a3 n3 c3], .int .i64 cl, .int .i64 gu]) (by simp [results, Tryd.results5, go_sem, z0, z1, z2, z3]) rfl ⟨_, _, _, _, P, cl, gu, rfl, D9.out, B9.out⟩
end Go.Proofs.YteilidnlfocnaaaDoor
namespace Go.Proofs.YteilidnlfocnaaaDoor
open Go.RowKit
set_option linter.unusedVariables false

def tbStep (g : Int) (a : Int × Int) (s : Int × Int) : Int × Int := (a.1 + (if s.1 = g then min s.2 a.2 else 0), a.2 - min s.2 a.2)
theorem tb_shift (g : Int) (zs : List (Int × Int)) : ∀ a r : Int, zs.foldl (tbStep g) (a, r) = (a + (zs.foldl (tbStep g) (0, r)).1, (zs.foldl (tbStep g) (0, r)).2) := by
  induction zs with
  | nil => intro a r; simp
  | cons s t ih =>
    intro a r
    rw [List.foldl_cons, List.foldl_cons, tbStep, tbStep, ih, ih (0 + _)]
    refine Prod.ext ?_ rfl
    simp only
    omega
theorem tbF_eq (g : Int) (zs : List (Int × Int)) (r : Int) : tbF g zs r = zs.foldl (tbStep g) (0, r) := rfl
theorem tb_nil (g r : Int) : tbF g [] r = (0, r) := rfl
theorem tb_cons (g : Int) (s : Int × Int) (t : List (Int × Int)) (r : Int) : (tbF g (s :: t) r).1 = (if s.1 = g then min s.2 r else 0) + (tbF g t (r - min s.2 r)).1 := by
  rw [tbF_eq, tbF_eq, List.foldl_cons, tbStep, tb_shift]
  simp
theorem tb_zero (g : Int) (zs : List (Int × Int)) (hp : ∀ s ∈ zs, 1 ≤ s.2) : (tbF g zs 0).1 = 0 := by
  induction zs with
  | nil => rfl
  | cons s t ih =>
    have h1 := hp s (by simp)
    have m : min s.2 0 = 0 := by rw [Int.min_def]; split <;> omega
    rw [tb_cons, m]
    have := ih fun x hx => hp x (by simp [hx])
    simpa using this
theorem tb_full (g : Int) (zs : List (Int × Int)) (hp : ∀ s ∈ zs, 1 ≤ s.2) : (tbF g zs (rdV zs)).1 = frV g zs := by
  induction zs with
  | nil => rfl
  | cons s t ih =>
    have h1 := rd_nonneg t fun x hx => hp x (by simp [hx])
    have m : min s.2 (rdV (s :: t)) = s.2 := by rw [rdV, Int.min_def]; split <;> omega
    rw [tb_cons, m, frV, rdV, show s.2 + rdV t - s.2 = rdV t by omega, ih fun x hx => hp x (by simp [hx])]
/-- The slot at r steps into a round is one of the plan, and what is left of it is of its own. -/
theorem tn_in (zs : List (Int × Int)) (hp : ∀ s ∈ zs, 1 ≤ s.2) : ∀ r : Int, 0 ≤ r → r < rdV zs →
    0 ≤ (tnV zs r).1 ∧ (tnV zs r).1 < zs.length ∧ 1 ≤ (tnV zs r).2 ∧ (tnV zs r).2 ≤ (zs.getD (tnV zs r).1.toNat (0, 0)).2 := by
  induction zs with
  | nil => intro r h0 h1; simp [rdV] at h1; omega
  | cons s t ih =>
    intro r h0 h1
    rw [rdV] at h1
    rw [tnV]
    split
    · rename_i hs
      obtain ⟨k0, k1, k2, k3⟩ := ih (fun x hx => hp x (by simp [hx])) (r - s.2) (by omega) (by omega)
      have e : ((tnV t (r - s.2)).1 + 1).toNat = (tnV t (r - s.2)).1.toNat + 1 := by omega
      refine ⟨by simp only; omega, by simp only [List.length_cons]; omega, k2, ?_⟩
      simp only [e, List.getD_cons_succ]
      exact k3
    · rename_i hs
      refine ⟨by simp, by simp only [List.length_cons]; omega, by simp only; omega, ?_⟩
      simp
      omega
theorem tb_next (g : Int) (zs : List (Int × Int)) (hp : ∀ s ∈ zs, 1 ≤ s.2) : ∀ r : Int, 0 ≤ r → r < rdV zs →
    (tbF g zs (r + 1)).1 = (tbF g zs r).1 + (if (zs.getD (tnV zs r).1.toNat (0, 0)).1 = g then 1 else 0) := by
  induction zs with
  | nil => intro r h0 h1; simp [rdV] at h1; omega
  | cons s t ih =>
    intro r h0 h1
    rw [rdV] at h1
    have hp' : ∀ x ∈ t, 1 ≤ x.2 := fun x hx => hp x (by simp [hx])
    rw [tb_cons, tb_cons, tnV]
    by_cases hs : s.2 ≤ r
    · rw [if_pos hs]
      have m1 : min s.2 (r + 1) = s.2 := by rw [Int.min_def]; split <;> omega
      have m2 : min s.2 r = s.2 := by rw [Int.min_def]; split <;> omega
      have k := ih hp' (r - s.2) (by omega) (by omega)
      have k0 := (tn_in t hp' (r - s.2) (by omega) (by omega)).1
      have e : ((tnV t (r - s.2)).1 + 1).toNat = (tnV t (r - s.2)).1.toNat + 1 := by omega
      rw [m1, m2, show r + 1 - s.2 = r - s.2 + 1 by omega, k]
      simp only [e, List.getD_cons_succ]
      omega
    · rw [if_neg hs]
      have m1 : min s.2 (r + 1) = r + 1 := by rw [Int.min_def]; split <;> omega
      have m2 : min s.2 r = r := by rw [Int.min_def]; split <;> omega
      rw [m1, m2, show r + 1 - (r + 1) = 0 by omega, show r - r = 0 by omega, tb_zero g t hp']
      simp only [Int.toNat_zero, List.getD_cons_zero]
      split <;> omega
/-- The sum over the guests 0 .. n - 1, as a loop adds it. -/
def sumG : Nat → (Int → Int) → Int
  | 0, _ => 0
  | n + 1, f => sumG n f + f n
theorem sumG_add (n : Nat) (f h : Int → Int) : sumG n (fun g => f g + h g) = sumG n f + sumG n h := by
  induction n with
  | zero => rfl
  | succ n ih => simp only [sumG, ih]; omega
theorem sumG_mul (n : Nat) (k : Int) (f : Int → Int) : sumG n (fun g => k * f g) = k * sumG n f := by
  induction n with
  | zero => simp [sumG]
  | succ n ih => simp only [sumG, ih, Int.mul_add]
theorem sumG_none (n : Nat) (a m : Int) (h : (n : Int) ≤ a) : sumG n (fun g => if a = g then m else 0) = 0 := by
  induction n with
  | zero => rfl
  | succ n ih =>
    simp only [sumG]
    rw [ih (by omega), if_neg (by omega)]
    rfl
theorem sumG_one (n : Nat) (a m : Int) (h0 : 0 ≤ a) (h1 : a < n) : sumG n (fun g => if a = g then m else 0) = m := by
  induction n with
  | zero => omega
  | succ n ih =>
    simp only [sumG]
    by_cases h : a = n
    · rw [if_pos h, sumG_none n a m (by omega)]; omega
    · rw [if_neg h, ih (by omega)]; omega
theorem sumG_congr (n : Nat) (f h : Int → Int) (e : ∀ g, f g = h g) : sumG n f = sumG n h := by
  rw [show f = h from funext e]
theorem sum_tb (n : Nat) (zs : List (Int × Int)) (hp : ∀ s ∈ zs, 1 ≤ s.2) (hg : ∀ s ∈ zs, 0 ≤ s.1 ∧ s.1 < n) : ∀ r : Int, 0 ≤ r → r ≤ rdV zs → sumG n (fun g => (tbF g zs r).1) = r := by
  induction zs with
  | nil =>
    intro r h0 h1
    simp [rdV] at h1
    have z : ∀ m : Nat, sumG m (fun g => (tbF g ([] : List (Int × Int)) r).1) = 0 := by
      intro m
      induction m with
      | zero => rfl
      | succ m ih => rw [sumG, ih]; rfl
    rw [z]
    omega
  | cons s t ih =>
    intro r h0 h1
    rw [rdV] at h1
    have hp' : ∀ x ∈ t, 1 ≤ x.2 := fun x hx => hp x (by simp [hx])
    have k1 := hp s (by simp)
    have k2 := hg s (by simp)
    have k3 := rd_nonneg t hp'
    rw [sumG_congr n _ _ fun g => tb_cons g s t r, sumG_add, sumG_one n s.1 _ k2.1 k2.2]
    rw [ih hp' (fun x hx => hg x (by simp [hx])) (r - min s.2 r) (by rw [Int.min_def]; split <;> omega) (by rw [Int.min_def]; split <;> omega)]
    omega
theorem sum_fr (n : Nat) (zs : List (Int × Int)) (hp : ∀ s ∈ zs, 1 ≤ s.2) (hg : ∀ s ∈ zs, 0 ≤ s.1 ∧ s.1 < n) : sumG n (fun g => frV g zs) = rdV zs := by
  rw [← sumG_congr n _ _ fun g => tb_full g zs hp]
  exact sum_tb n zs hp hg _ (rd_nonneg zs hp) (Int.le_refl _)
theorem slot_guests (n : Nat) (zs : List (Int × Int)) (h : slotsV n zs = 0) : ∀ s ∈ zs, 0 ≤ s.1 ∧ s.1 < n := by
  induction zs with
  | nil => intro s hs; cases hs
  | cons a t ih =>
    rw [slotsV] at h
    split at h
    · rename_i h1
      intro s hs
      rcases List.mem_cons.1 hs with rfl | hs
      · rw [slotV] at h1
        split at h1
        · cases h1
        · rename_i h2
          have : isG n s.1 = true := by simpa using h2
          simp [isG] at this
          omega
      · exact ih h s hs
    · rename_i h1
      exact absurd h h1
theorem pf_guests (P : Plc) (h : pfV P = 0) : ∀ s ∈ P.plan, 0 ≤ s.1 ∧ s.1 < P.own.length := by
  have h6 : g6V P = 0 := (or_zero (or_zero (or_zero h).2).2).2
  unfold g6V at h6
  split at h6
  · cases h6
  · exact slot_guests _ _ h6
/-- All steps so far are somebody's. -/
theorem tb_sum (P : Plc) (h : pfV P = 0) (c : Int) (hc : 0 ≤ c) : sumG P.own.length (fun g => tbV P c g) = c := by
  have hp : ∀ s ∈ P.plan, 1 ≤ s.2 := fun s hs => (pf_each P h s hs).1
  have hg := pf_guests P h
  have r1 := (rd_pos P h).1
  have m0 := Int.emod_nonneg c (b := rdV P.plan) (by omega)
  have m1 := Int.emod_lt_of_pos c (b := rdV P.plan) (by omega)
  unfold tbV
  rw [sumG_add, sumG_mul, sum_fr _ _ hp hg, sum_tb _ _ hp hg _ m0 (by omega)]
  have := Int.ediv_mul_add_emod c (rdV P.plan)
  omega
/-- A step more is the one guest's whose turn it is. -/
theorem tb_more (P : Plc) (h : pfV P = 0) (c g : Int) (hc : 0 ≤ c) : tbV P (c + 1) g = tbV P c g + (if tG P c = g then 1 else 0) := by
  have hp : ∀ s ∈ P.plan, 1 ≤ s.2 := fun s hs => (pf_each P h s hs).1
  have r1 := (rd_pos P h).1
  have m0 := Int.emod_nonneg c (b := rdV P.plan) (by omega)
  have m1 := Int.emod_lt_of_pos c (b := rdV P.plan) (by omega)
  have k := tb_next g P.plan hp (c % rdV P.plan) m0 m1
  have e : (P.plan.getD (tnV P.plan (c % rdV P.plan)).1.toNat (0, 0)).1 = tG P c := rfl
  rw [e] at k
  unfold tbV
  have d := Int.ediv_mul_add_emod c (rdV P.plan)
  by_cases hl : c % rdV P.plan + 1 < rdV P.plan
  · have q : (c + 1) / rdV P.plan = c / rdV P.plan ∧ (c + 1) % rdV P.plan = c % rdV P.plan + 1 := by
      have hc1 : c + 1 = (c % rdV P.plan + 1) + rdV P.plan * (c / rdV P.plan) := by rw [Int.mul_comm]; omega
      constructor
      · rw [hc1, Int.add_mul_ediv_left _ _ (by omega), Int.ediv_eq_zero_of_lt (by omega) hl, Int.zero_add]
      · rw [hc1, Int.add_mul_emod_self_left, Int.emod_eq_of_lt (by omega) hl]
    rw [q.1, q.2, k]
    omega
  · have hr : c % rdV P.plan + 1 = rdV P.plan := by omega
    have hc1 : c + 1 = 0 + rdV P.plan * (c / rdV P.plan + 1) := by rw [Int.mul_add, Int.mul_comm]; omega
    have q1 : (c + 1) / rdV P.plan = c / rdV P.plan + 1 := by rw [hc1, Int.zero_add, Int.mul_ediv_cancel_left _ (by omega)]
    have q2 : (c + 1) % rdV P.plan = 0 := by rw [hc1, Int.zero_add, Int.mul_emod_right]
    rw [hr, tb_full g P.plan hp] at k
    rw [q1, q2, tb_zero g P.plan hp, Int.add_mul, Int.one_mul, k]
    omega
theorem tS_mod (P : Plc) (c : Int) : tS P (c % rdV P.plan) = tS P c := by
  unfold tS
  rw [Int.emod_emod]
theorem tS_in (P : Plc) (h : pfV P = 0) (c : Int) : 0 ≤ (tS P c).1 ∧ (tS P c).1 < P.plan.length ∧ 1 ≤ (tS P c).2 ∧ (tS P c).2 ≤ (P.plan.getD (tS P c).1.toNat (0, 0)).2 :=
  tn_in P.plan (fun s hs => (pf_each P h s hs).1) _ (Int.emod_nonneg c (by have := (rd_pos P h).1; omega)) (Int.emod_lt_of_pos c (by have := (rd_pos P h).1; omega))
end Go.Proofs.YteilidnlfocnaaaDoor
namespace Go.Proofs.YteilidnlfocnaaaDoor.fnTurnsDone
open Go.ChangeShapes Go.WideShapes Go.ChangeAt Go.RowKit
open Go.ChangeMaps (open_string shut_string)
set_option linter.unusedVariables false

theorem field_int0 (x0 x1 : Value) (w : World) : (Instr.field 33 (.agg #[x0, x1]) 0).run Tryd.prog w = .ok x0 w := by kernel_rfl
theorem field_int1 (x0 x1 : Value) (w : World) : (Instr.field 33 (.agg #[x0, x1]) 1).run Tryd.prog w = .ok x1 w := by kernel_rfl
theorem field_slot1 (x0 x1 x2 x3 : Value) (w : World) : (Instr.field 39 (.agg #[x0, x1, x2, x3]) 1).run Tryd.prog w = .ok x1 w := by kernel_rfl
theorem tb_nonneg (P : Plc) (h : pfV P = 0) (c g : Int) (hc : 0 ≤ c) : 0 ≤ tbV P c g := by
  have r1 := (rd_pos P h).1
  have m0 := Int.emod_nonneg c (b := rdV P.plan) (by omega)
  have k := tb_bound g P.plan _ m0 (fun s hs => (pf_each P h s hs).1) P.plan.length (Nat.le_refl _)
  rw [List.take_length] at k
  have f := (fr_le P h g).1
  have d := Int.ediv_nonneg hc (b := rdV P.plan) (by omega)
  have m := Int.mul_nonneg d f
  unfold tbV
  omega
theorem sumG_nonneg (f : Int → Int) (h : ∀ g, 0 ≤ f g) : ∀ n, 0 ≤ sumG n f
  | 0 => by simp [sumG]
  | n + 1 => by have := h n; have := sumG_nonneg f h n; simp only [sumG]; omega
theorem sumG_le (f : Int → Int) (h : ∀ g, 0 ≤ f g) (j : Nat) : ∀ k, sumG j f ≤ sumG (j + k) f
  | 0 => Int.le_refl _
  | k + 1 => by have := h ((j + k : Nat) : Int); have := sumG_le f h j k; show sumG j f ≤ sumG (j + k) f + f ((j + k : Nat) : Int); omega
theorem sum_one (f : Int → Int) (h : ∀ g, 0 ≤ f g) (i n : Nat) (hi : i < n) : f (i : Int) ≤ sumG n f := by
  have h1 := sumG_le f h (i + 1) (n - (i + 1))
  rw [show i + 1 + (n - (i + 1)) = n by omega] at h1
  have h2 := sumG_nonneg f h i
  have e : sumG (i + 1) f = sumG i f + f (i : Int) := rfl
  omega
theorem tb_ok {P : Plc} {c g : Int} (h : (tbR P c g).1 = 0) : ckV P c = 0 ∧ isG P.own.length g = true ∧ (tbR P c g).2 = tbV P c g := by
  unfold tbR at h ⊢
  split at h
  · rename_i h0
    rw [if_pos h0]
    unfold tbC at h0
    split at h0
    · rename_i h1
      refine ⟨h1, ?_, rfl⟩
      cases e : isG P.own.length g with
      | true => rfl
      | false => rw [e] at h0; simp at h0
    · rename_i h1
      exact absurd h0 h1
  · rename_i h0
    exact absurd h h0
theorem tb_val {P : Plc} {c g : Int} (h : ckV P c = 0) (hg : isG P.own.length g = true) : tbR P c g = (0, tbV P c g) := by
  have : tbC P c g = 0 := by rw [tbC, if_pos h, if_neg (by rw [hg]; decide)]
  rw [tbR, if_pos this]
theorem ck_val {P : Plc} {c : Int} (h : pfV P = 0) (h0 : 0 ≤ c) (h1 : c ≤ 1000000) : ckV P c = 0 := by
  rw [ckV, if_pos h, if_neg]
  unfold ckOk
  simp
  omega
theorem tR_val {P : Plc} {c : Int} (h : ckV P c = 0) : tR P c = (0, (tS P c).1, tG P c, (tS P c).2) := by rw [tR, if_pos h]
set_option maxRecDepth 20000 in
set_option maxHeartbeats 16000000 in
theorem walk (a0 : Option Addr) (len0 cap0 : Nat) (z0 : List Int) (w : World) (w0 : IsRow .u8 w a0 len0 cap0 z0) (hg : w.cell? ⟨0, 0, none⟩ = some (.iface 99 (.agg #[.pointer (some ⟨1, 67, none⟩)]))) :
    Calls Tryd.prog 3 #[.slice a0 len0 cap0] w fun e w' => e = .returned (.bool true) ∧ Below w.heap.size w w' := by
  have HR : Hid (IsRow .u8 w a0 len0 cap0 z0) := w0
  have HG : Hid (w.cell? ⟨0, 0, none⟩ = some (.iface 99 (.agg #[.pointer (some ⟨1, 67, none⟩)]))) := hg
  clear w0 hg
  by_cases hbig : 1048576 < (len0 : Int)
  · go_enter Tryd.func3, Tryd.ntmps3
    go_wp2
    go_ret
    exact ⟨rfl, Below.refl _ _⟩
  have hb2 : (len0 : Int) ≤ 1048576 := by omega
  clear hbig
  go_enter Tryd.func3, Tryd.ntmps3
  go_wp2_with (go_at_call 4; go_in)
  refine (drawTurnsBefore HR.out).mono ?_
  rintro e w1 ⟨_, _, _, _, P, cl, gu, rfl, dv, b1⟩
  clear HR
  obtain ⟨a0, c0, a1, c1, a2, c2, a3, c3, e0, e1, e2, e3⟩ := dv.shape
  subst e0 e1 e2 e3
  obtain ⟨n0, hn0⟩ : ∃ n, P.own.length = n := ⟨_, rfl⟩
  obtain ⟨n1, hn1⟩ : ∃ n, P.lanes.length = n := ⟨_, rfl⟩
  obtain ⟨n2, hn2⟩ : ∃ n, P.bells.length = n := ⟨_, rfl⟩
  obtain ⟨n3, hn3⟩ : ∃ n, P.plan.length = n := ⟨_, rfl⟩
  rw [hn0, hn1, hn2, hn3] at dv ⊢
  have HN : Hid (P.own.length = n0 ∧ P.plan.length = n3) := ⟨hn0, hn3⟩
  clear hn0 hn1 hn2 hn3
  go_upto_region 4 with fail
  obtain ⟨q, hq⟩ : ∃ q, w1.heap.size = q := ⟨_, rfl⟩
  have VQ : Hid (Bk (w1.alloc (.cells #[.slice a0 n0 c0, .slice a1 n1 c1, .slice a2 n2 c2, .slice a3 n3 c3] 29)) q #[.slice a0 n0 c0, .slice a1 n1 c1, .slice a2 n2 c2, .slice a3 n3 c3] 29) := by show Bk _ _ _ _; rw [← hq]; exact Bk.new _ _ _
  have B : Hid (Below w.heap.size w (w1.alloc (.cells #[.slice a0 n0 c0, .slice a1 n1 c1, .slice a2 n2 c2, .slice a3 n3 c3] 29))) := al b1 _
  have HP : Hid (Pl (w1.alloc (.cells #[.slice a0 n0 c0, .slice a1 n1 c1, .slice a2 n2 c2, .slice a3 n3 c3] 29)) a0 n0 c0 a1 n1 c1 a2 n2 c2 a3 n3 c3 P) := (dv.keep (al (Below.refl _ _) _)).pl
  try rw [hq]
  generalize w1.alloc (.cells #[.slice a0 n0 c0, .slice a1 n1 c1, .slice a2 n2 c2, .slice a3 n3 c3] 29) = W at *
  clear hq dv b1
  have q0 := VQ.out.cell (i := 0) rfl
  have q1 := VQ.out.cell (i := 1) rfl
  have q2 := VQ.out.cell (i := 2) rfl
  have q3 := VQ.out.cell (i := 3) rfl
  go_wp2_with fail
  clear q0 q1 q2 q3
  refine (i_TurnsBefore _ _ _ _ _ _ _ _ _ _ _ _ P cl gu _ HP.out (cell_keep B.out HG.out)).mono ?_
  rintro e w2 ⟨rfl, b2⟩
  obtain ⟨v1, hv1⟩ : ∃ v, (tbR P cl gu).1 = v := ⟨_, rfl⟩
  obtain ⟨v2, hv2⟩ : ∃ v, (tbR P cl gu).2 = v := ⟨_, rfl⟩
  rw [hv1, hv2]
  have HV : Hid ((tbR P cl gu).1 = v1 ∧ (tbR P cl gu).2 = v2) := ⟨hv1, hv2⟩
  clear hv1 hv2
  have AL : Hid (Below W.heap.size W (w2.alloc (.cells #[.int .i64 v1, .int .i64 v2] 33))) := al b2 _
  obtain ⟨t, ht⟩ : ∃ t, w2.heap.size = t := ⟨_, rfl⟩
  have VT : Hid (Bk (w2.alloc (.cells #[.int .i64 v1, .int .i64 v2] 33)) t #[.int .i64 v1, .int .i64 v2] 33) := by show Bk _ _ _ _; rw [← ht]; exact Bk.new _ _ _
  clear b2
  go_upto_region 5 with fail
  try rw [ht]
  generalize w2.alloc (.cells #[.int .i64 v1, .int .i64 v2] 33) = W2 at *
  clear ht
  replace B : Hid (Below w.heap.size w W2) := on B.out AL.out
  replace HP : Hid (Pl W2 a0 n0 c0 a1 n1 c1 a2 n2 c2 a3 n3 c3 P) := HP.out.stay AL.out
  replace VQ : Hid (Bk W2 q #[.slice a0 n0 c0, .slice a1 n1 c1, .slice a2 n2 c2, .slice a3 n3 c3] 29) := VQ.out.keep AL.out
  clear AL
  have r0 := VT.out.cell (i := 0) rfl
  by_cases hz : v1 = 0
  case neg =>
    go_wp2_with fail
    clear r0
    have SD : Hid (Below W2.heap.size W2 W2.drew) := (Below.refl _ _).drew
    refine wp_region_held (S := fun w' => Below W2.heap.size W2 w') (by kernel_rfl) ?_
    change wpAnyH _ _ _ _ _ _ _ _ (World.drew _)
    generalize W2.drew = u0 at *
    refine wpAnyH_take (i := 0) (v := (.agg #[.slice a0 n0 c0, .slice a1 n1 c1, .slice a2 n2 c2, .slice a3 n3 c3])) rfl (by kernel_rfl) (by kernel_rfl) (by kernel_rfl) (fun _ _ _ h => h) (Or.inl ⟨by rfl, fun w' hs => by have hp := VQ.out.keep hs; have y0 := hp.cell (i := 0) rfl; have y1 := hp.cell (i := 1) rfl; have y2 := hp.cell (i := 2) rfl; have y3 := hp.cell (i := 3) rfl; go_simp⟩) SD.out ?_
    change wpAnyH _ _ _ _ _ _ _ (Act.put _ (some 27) _) _
    simp only [Act.put, List.setIfInBounds_toArray, List.set_cons_zero, List.set_cons_succ]
    refine wpAnyH_take (i := 1) (v := (.int .i64 cl)) rfl (by kernel_rfl) (by kernel_rfl) (by kernel_rfl) (fun _ _ _ h => h) (Or.inl ⟨by rfl, fun w' hs => by go_simp⟩) SD.out ?_
    change wpAnyH _ _ _ _ _ _ _ (Act.put _ (some 28) _) _
    simp only [Act.put, List.setIfInBounds_toArray, List.set_cons_zero, List.set_cons_succ]
    refine wpAnyH_take (i := 2) (v := (.int .i64 gu)) rfl (by kernel_rfl) (by kernel_rfl) (by kernel_rfl) (fun _ _ _ h => h) (Or.inl ⟨by rfl, fun w' hs => by go_simp⟩) SD.out ?_
    change wpAnyH _ _ _ _ _ _ _ (Act.put _ (some 29) _) _
    simp only [Act.put, List.setIfInBounds_toArray, List.set_cons_zero, List.set_cons_succ]
    refine wpAnyH_take (i := 5) (v := (.pointer (some ⟨t, 0, none⟩))) rfl (by kernel_rfl) (by kernel_rfl) (by kernel_rfl) (fun _ _ _ h => h) (Or.inl ⟨by rfl, fun w' hs => by go_simp⟩) SD.out ?_
    change wpAnyH _ _ _ _ _ _ _ (Act.put _ (some 32) _) _
    simp only [Act.put, List.setIfInBounds_toArray, List.set_cons_zero, List.set_cons_succ]
    refine wpAnyH_take (i := 6) (v := (.int .i64 v1)) rfl (by kernel_rfl) (by kernel_rfl) (by kernel_rfl) (fun _ _ _ h => h) (Or.inl ⟨by rfl, fun w' hs => by have y := (VT.out.keep hs).cell (i := 0) rfl; go_simp⟩) SD.out ?_
    change wpAnyH _ _ _ _ _ _ _ (Act.put _ (some 33) _) _
    simp only [Act.put, List.setIfInBounds_toArray, List.set_cons_zero, List.set_cons_succ]
    refine wpAnyH_ready (rs := [3]) (by kernel_rfl) (by simp) ?_
    refine AllReadyH.cons rfl (fun K hK => ?_) AllReadyH.nil
    rw [if_pos (by rfl)]
    go_simp
    refine (s_TurnsBefore _ _ _ _ _ _ _ _ _ _ _ _ P cl gu _ (HP.out.stay SD.out)).mono ?_
    rintro e u1 ⟨rfl, b3⟩
    rw [HV.out.1, HV.out.2]
    replace SD : Hid (Below W2.heap.size W2 u1) := on SD.out b3
    clear b3
    refine hK.out _ _ SD.out (fun _ => ?_)
    clear hK K
    refine wpAnyH_take (i := 4) (v := (.int .i64 v1)) rfl (by kernel_rfl) (by kernel_rfl) (by kernel_rfl) (fun _ _ _ h => h) (Or.inl ⟨by rfl, fun w' hs => by have hf := field_int0; go_simp⟩) SD.out ?_
    change wpAnyH _ _ _ _ _ _ _ (Act.put _ (some 31) _) _
    simp only [Act.put, List.setIfInBounds_toArray, List.set_cons_zero, List.set_cons_succ]
    refine wpAnyH_take (i := 7) (v := (.bool true)) rfl (by kernel_rfl) (by kernel_rfl) (by kernel_rfl) (fun _ _ _ h => h) (Or.inl ⟨by rfl, fun w' hs => by go_simp⟩) SD.out ?_
    change wpAnyH _ _ _ _ _ _ _ (Act.put _ (some 34) _) _
    simp only [Act.put, List.setIfInBounds_toArray, List.set_cons_zero, List.set_cons_succ]
    refine wpAnyH_take (i := 8) (v := (.bool true)) rfl (by kernel_rfl) (by kernel_rfl) (by kernel_rfl) (fun _ _ _ h => h) (Or.inl ⟨by rfl, fun w' hs => by go_simp⟩) SD.out ?_
    change wpAnyH _ _ _ _ _ _ _ (Act.put _ (some 2) _) _
    simp only [Act.put, List.setIfInBounds_toArray, List.set_cons_zero, List.set_cons_succ]
    refine wpAnyH_done (by kernel_rfl) ?_ _
    go_wp2_with fail
    go_ret
    exact ⟨rfl, on B.out SD.out⟩
  subst hz
  have CK : Hid (ckV P cl = 0 ∧ isG P.own.length gu = true ∧ v2 = tbV P cl gu) := by
    obtain ⟨h1, h2, h3⟩ := tb_ok HV.out.1
    exact ⟨h1, h2, by rw [← HV.out.2]; exact h3⟩
  obtain ⟨pf, hc0, hc1⟩ := ck_pf CK.out.1
  have PF : Hid (pfV P = 0 ∧ 0 ≤ cl ∧ cl ≤ 1000000) := ⟨pf, hc0, hc1⟩
  have SUM : Hid (sumG n0 (fun g => tbV P cl g) = cl) := by show _ = _; rw [← HN.out.1]; exact tb_sum P pf cl hc0
  have NN : Hid (∀ g, 0 ≤ tbV P cl g) := fun g => tb_nonneg P pf cl g hc0
  have N3 : Hid (n0 ≤ 3 ∧ n3 ≤ 8) := ⟨by rw [← HN.out.1]; exact (pf_parts P pf).1, by rw [← HN.out.2]; exact (pf_plan P pf).1⟩
  clear pf hc0 hc1
  have n0I : (n0 : Int) ≤ 3 := by have := N3.out; omega
  go_wp2_with fail
  clear r0
  go_loopw [7, 8] (fun s c wr => ∃ j : Nat, j ≤ n0 ∧ c = .int .i64 (j : Int) ∧ s = .int .i64 (sumG j (fun g => tbV P cl g)) ∧ Below W2.heap.size W2 wr) (fun _ c _ => n0 - (intOf c).toNat)
  case atStart => exact ⟨0, Nat.zero_le _, rfl, rfl, Below.refl _ _⟩
  case round =>
    obtain ⟨j, hj, rfl, rfl, hB⟩ := hrel
    have HB : Hid (Below W2.heap.size W2 wr) := hB
    have VQ1 : Hid (Bk wr q #[.slice a0 n0 c0, .slice a1 n1 c1, .slice a2 n2 c2, .slice a3 n3 c3] 29) := VQ.out.keep hB
    clear hB
    have s1 := sumG_nonneg _ NN.out j
    have s2 : sumG j (fun g => tbV P cl g) ≤ cl := by
      have h := sumG_le _ NN.out j (n0 - j)
      rw [show j + (n0 - j) = n0 by omega, SUM.out] at h
      exact h
    obtain ⟨sj, hsj⟩ : ∃ z, sumG j (fun g => tbV P cl g) = z := ⟨_, rfl⟩
    have HSJ : Hid (sumG j (fun g => tbV P cl g) = sj) := hsj
    rw [hsj] at s1 s2 ⊢
    have SB : Hid (0 ≤ sj ∧ sj ≤ cl) := ⟨s1, s2⟩
    clear hsj s1 s2
    have q0 := VQ1.out.cell (i := 0) rfl
    have q1 := VQ1.out.cell (i := 1) rfl
    have q2 := VQ1.out.cell (i := 2) rfl
    have q3 := VQ1.out.cell (i := 3) rfl
    by_cases hlt : j < n0
    · have hI : (j : Int) < (n0 : Int) := by omega
      have HLT : Hid (j < n0) := hlt
      clear hlt hj
      go_wp2_with fail
      clear q0 q1 q2 q3
      refine (i_TurnsBefore _ _ _ _ _ _ _ _ _ _ _ _ P cl (j : Int) _ (HP.out.stay HB.out) (cell_keep (on B.out HB.out) HG.out)).mono ?_
      rintro e w5 ⟨rfl, b5⟩
      rw [tb_val CK.out.1 (show isG P.own.length (j : Int) = true by rw [isG_iff]; have := HN.out; have := HLT.out; omega)]
      have s3 : sj + tbV P cl (j : Int) ≤ cl := by
        have h := sumG_le _ NN.out (j + 1) (n0 - (j + 1))
        rw [show j + 1 + (n0 - (j + 1)) = n0 by have := HLT.out; omega, SUM.out] at h
        have e : sumG (j + 1) (fun g => tbV P cl g) = sumG j (fun g => tbV P cl g) + tbV P cl (j : Int) := rfl
        rw [e, HSJ.out] at h
        exact h
      obtain ⟨tv, htv⟩ : ∃ z, tbV P cl (j : Int) = z := ⟨_, rfl⟩
      have HTV : Hid (tbV P cl (j : Int) = tv) := htv
      have nn := NN.out (j : Int)
      rw [htv] at s3 nn ⊢
      have w1 : -9223372036854775808 ≤ sj + tv ∧ sj + tv ≤ 9223372036854775807 := by have := SB.out; have := PF.out; omega
      have w2 : wrap64 (sj + tv) = sj + tv := wrap64_id w1
      have B5 : Hid (Below W2.heap.size W2 w5) := on HB.out b5
      clear htv b5 s3 nn
      have hf := field_int1
      go_wp2_with fail
      clear hf
      go_roundw
      case rel => exact ⟨j + 1, by have := HLT.out; omega, by go_num, by rw [show sumG (j + 1) (fun g => tbV P cl g) = sumG j (fun g => tbV P cl g) + tbV P cl (j : Int) from rfl, HSJ.out, HTV.out]; try simp [w2], B5.out⟩
      case measure => have := HLT.out; simp [intOf]; omega
    · have hJ : ¬ (j : Int) < (n0 : Int) := by omega
      have JN : n0 = j := by omega
      subst JN
      have ES : sj = cl := by rw [← HSJ.out]; exact SUM.out
      subst ES
      clear hlt hj SB HSJ
      go_wp2_with fail
      clear q0 q1 q2 q3
      refine (i_roundOf _ _ _ _ _ _ _ _ _ _ _ _ P _ (HP.out.stay HB.out) (cell_keep (on B.out HB.out) HG.out)).mono ?_
      rintro e w5 ⟨rfl, b5⟩
      have RR : Hid ((rR P).1 = 0 ∧ (rR P).2 = rdV P.plan) := by
        have h := PF.out.1
        unfold rR
        rw [if_pos h]
        exact ⟨rfl, rfl⟩
      obtain ⟨rd, hrd⟩ : ∃ z, rdV P.plan = z := ⟨_, rfl⟩
      have HRD : Hid (rdV P.plan = rd ∧ 1 ≤ rd ∧ rd ≤ 400) := ⟨hrd, by have := rd_pos P PF.out.1; rw [hrd] at this; exact this⟩
      rw [RR.out.1, RR.out.2, hrd]
      clear hrd
      have B5 : Hid (Below W2.heap.size W2 w5) := on HB.out b5
      clear b5
      have hf := field_int1
      have VQ5 : Hid (Bk w5 q #[.slice a0 n0 c0, .slice a1 n1 c1, .slice a2 n2 c2, .slice a3 n3 c3] 29) := VQ.out.keep B5.out
      have q0 := VQ5.out.cell (i := 0) rfl
      have q1 := VQ5.out.cell (i := 1) rfl
      have q2 := VQ5.out.cell (i := 2) rfl
      have q3 := VQ5.out.cell (i := 3) rfl
      go_wp2_with fail
      clear hf q0 q1 q2 q3
      refine (i_TurnAt _ _ _ _ _ _ _ _ _ _ _ _ P sj _ (HP.out.stay B5.out) (cell_keep (on B.out B5.out) HG.out)).mono ?_
      rintro e w6 ⟨rfl, b6⟩
      rw [tR_val CK.out.1]
      obtain ⟨ts, hts⟩ : ∃ z : Nat, (tS P sj).1 = (z : Int) ∧ z < n3 := by
        have h := tS_in P PF.out.1 sj
        obtain ⟨z, hz⟩ := Int.eq_ofNat_of_zero_le h.1
        exact ⟨z, hz, by have := HN.out.2; omega⟩
      obtain ⟨tg, htg⟩ : ∃ z, tG P sj = z := ⟨_, rfl⟩
      obtain ⟨tt, htt⟩ : ∃ z, (tS P sj).2 = z := ⟨_, rfl⟩
      have HT : Hid ((tS P sj).1 = (ts : Int) ∧ tG P sj = tg ∧ (tS P sj).2 = tt ∧ ts < n3) := ⟨hts.1, htg, htt, hts.2⟩
      rw [hts.1, htg, htt]
      have SLT : Hid ((P.plan.getD ts (0, 0)).1 = tg ∧ 1 ≤ tt ∧ tt ≤ (P.plan.getD ts (0, 0)).2) := by
        have h := tS_in P PF.out.1 sj
        have e : (tS P sj).1.toNat = ts := by rw [hts.1]; exact Int.toNat_natCast _
        rw [e, htt] at h
        refine ⟨?_, h.2.2.1, h.2.2.2⟩
        rw [← htg, tG, e]
      clear hts htg htt
      have AL : Hid (Below W2.heap.size W2 (w6.alloc (.cells #[.int .i64 0, .int .i64 (ts : Int), .int .i64 tg, .int .i64 tt] 39))) := al (on B5.out b6) _
      obtain ⟨u, hu⟩ : ∃ t, w6.heap.size = t := ⟨_, rfl⟩
      have VU : Hid (Bk (w6.alloc (.cells #[.int .i64 0, .int .i64 (ts : Int), .int .i64 tg, .int .i64 tt] 39)) u #[.int .i64 0, .int .i64 (ts : Int), .int .i64 tg, .int .i64 tt] 39) := by show Bk _ _ _ _; rw [← hu]; exact Bk.new _ _ _
      clear b6
      go_upto_region 14 with fail
      try rw [hu]
      generalize w6.alloc (.cells #[.int .i64 0, .int .i64 (ts : Int), .int .i64 tg, .int .i64 tt] 39) = W6 at *
      clear hu
      have SD : Hid (Below W6.heap.size W6 W6.drew) := (Below.refl _ _).drew
      have HP6 : Hid (Pl W6 a0 n0 c0 a1 n1 c1 a2 n2 c2 a3 n3 c3 P) := HP.out.stay AL.out
      have VQ6 : Hid (Bk W6 q #[.slice a0 n0 c0, .slice a1 n1 c1, .slice a2 n2 c2, .slice a3 n3 c3] 29) := VQ.out.keep AL.out
      have B6 : Hid (Below w.heap.size w W6) := on B.out AL.out
      obtain ⟨x3, ha3, -, -⟩ := HP6.out.plan.at ts HT.out.2.2.2
      subst ha3
      obtain ⟨pl, hpl⟩ : ∃ z, (P.plan.getD ts (0, 0)).2 = z := ⟨_, rfl⟩
      have HLE : Hid (1 ≤ tt ∧ tt ≤ pl) := by rw [← hpl]; exact SLT.out.2
      have PC : Hid (∀ w', Below W6.heap.size W6 w' → w'.cell? (x3.add (ts * 2)) = some (.int .i64 tg) ∧ w'.cell? ⟨(x3.add (ts * 2)).block, (x3.add (ts * 2)).off + 1, none⟩ = some (.int .i64 pl)) := by
        intro w' hb
        obtain ⟨x, hx, h0, h1⟩ := (HP6.out.plan.stay hb).at ts HT.out.2.2.2
        cases hx
        rw [SLT.out.1] at h0
        rw [hpl] at h1
        exact ⟨h0, h1⟩
      have CM : Hid (ckV P (Int.tmod sj rd) = 0 ∧ tS P (Int.tmod sj rd) = tS P sj) := by
        have hr := HRD.out
        have hp := PF.out
        have e : Int.tmod sj rd = sj % rd := Int.tmod_eq_emod_of_nonneg hp.2.1
        have m0 := Int.emod_nonneg sj (b := rd) (by omega)
        have m1 := Int.emod_lt_of_pos sj (b := rd) (by omega)
        rw [e]
        refine ⟨ck_val hp.1 m0 (by omega), ?_⟩
        rw [← hr.1]
        exact tS_mod P sj
      have LT3 : Hid ((ts : Int) < (n3 : Int)) := by have := HT.out.2.2.2; show _ < _; omega
      clear hpl
      refine wp_region_held (S := fun w' => Below W6.heap.size W6 w') (by kernel_rfl) ?_
      change wpAnyH _ _ _ _ _ _ _ _ (World.drew _)
      generalize W6.drew = v0 at *
      refine wpAnyH_take (i := 0) (v := (.pointer (some ⟨u, 0, none⟩))) rfl (by kernel_rfl) (by kernel_rfl) (by kernel_rfl) (fun _ _ _ h => h) (Or.inl ⟨by rfl, fun w' hs => by go_simp⟩) SD.out ?_
      change wpAnyH _ _ _ _ _ _ _ (Act.put _ (some 55) _) _
      simp only [Act.put, List.setIfInBounds_toArray, List.set_cons_zero, List.set_cons_succ]
      refine wpAnyH_take (i := 1) (v := (.int .i64 0)) rfl (by kernel_rfl) (by kernel_rfl) (by kernel_rfl) (fun _ _ _ h => h) (Or.inl ⟨by rfl, fun w' hs => by have y := (VU.out.keep hs).cell (i := 0) rfl; go_simp⟩) SD.out ?_
      change wpAnyH _ _ _ _ _ _ _ (Act.put _ (some 56) _) _
      simp only [Act.put, List.setIfInBounds_toArray, List.set_cons_zero, List.set_cons_succ]
      refine wpAnyH_take (i := 2) (v := (.bool false)) rfl (by kernel_rfl) (by kernel_rfl) (by kernel_rfl) (fun _ _ _ h => h) (Or.inl ⟨by rfl, fun w' hs => by go_simp⟩) SD.out ?_
      change wpAnyH _ _ _ _ _ _ _ (Act.put _ (some 57) _) _
      simp only [Act.put, List.setIfInBounds_toArray, List.set_cons_zero, List.set_cons_succ]
      refine wpAnyH_take (i := 3) (v := (.bool false)) rfl (by kernel_rfl) (by kernel_rfl) (by kernel_rfl) (fun _ _ _ h => h) (Or.inl ⟨by rfl, fun w' hs => by go_simp⟩) SD.out ?_
      change wpAnyH _ _ _ _ _ _ _ (Act.put _ (some 58) _) _
      simp only [Act.put, List.setIfInBounds_toArray, List.set_cons_zero, List.set_cons_succ]
      refine wpAnyH_take (i := 4) (v := (.int .i64 sj)) rfl (by kernel_rfl) (by kernel_rfl) (by kernel_rfl) (fun _ _ _ h => h) (Or.inl ⟨by rfl, fun w' hs => by go_simp⟩) SD.out ?_
      change wpAnyH _ _ _ _ _ _ _ (Act.put _ (some 59) _) _
      simp only [Act.put, List.setIfInBounds_toArray, List.set_cons_zero, List.set_cons_succ]
      refine wpAnyH_take (i := 5) (v := (.int .i64 sj)) rfl (by kernel_rfl) (by kernel_rfl) (by kernel_rfl) (fun _ _ _ h => h) (Or.inl ⟨by rfl, fun w' hs => by go_simp⟩) SD.out ?_
      change wpAnyH _ _ _ _ _ _ _ (Act.put _ (some 60) _) _
      simp only [Act.put, List.setIfInBounds_toArray, List.set_cons_zero, List.set_cons_succ]
      refine wpAnyH_take (i := 6) (v := (.bool false)) rfl (by kernel_rfl) (by kernel_rfl) (by kernel_rfl) (fun _ _ _ h => h) (Or.inl ⟨by rfl, fun w' hs => by go_simp⟩) SD.out ?_
      change wpAnyH _ _ _ _ _ _ _ (Act.put _ (some 61) _) _
      simp only [Act.put, List.setIfInBounds_toArray, List.set_cons_zero, List.set_cons_succ]
      refine wpAnyH_take (i := 7) (v := (.bool false)) rfl (by kernel_rfl) (by kernel_rfl) (by kernel_rfl) (fun _ _ _ h => h) (Or.inl ⟨by rfl, fun w' hs => by go_simp⟩) SD.out ?_
      change wpAnyH _ _ _ _ _ _ _ (Act.put _ (some 62) _) _
      simp only [Act.put, List.setIfInBounds_toArray, List.set_cons_zero, List.set_cons_succ]
      refine wpAnyH_take (i := 8) (v := (.bool false)) rfl (by kernel_rfl) (by kernel_rfl) (by kernel_rfl) (fun _ _ _ h => h) (Or.inl ⟨by rfl, fun w' hs => by go_simp⟩) SD.out ?_
      change wpAnyH _ _ _ _ _ _ _ (Act.put _ (some 63) _) _
      simp only [Act.put, List.setIfInBounds_toArray, List.set_cons_zero, List.set_cons_succ]
      refine wpAnyH_take (i := 9) (v := (.int .i64 rd)) rfl (by kernel_rfl) (by kernel_rfl) (by kernel_rfl) (fun _ _ _ h => h) (Or.inl ⟨by rfl, fun w' hs => by go_simp⟩) SD.out ?_
      change wpAnyH _ _ _ _ _ _ _ (Act.put _ (some 64) _) _
      simp only [Act.put, List.setIfInBounds_toArray, List.set_cons_zero, List.set_cons_succ]
      refine wpAnyH_take (i := 10) (v := (.bool false)) rfl (by kernel_rfl) (by kernel_rfl) (by kernel_rfl) (fun _ _ _ h => h) (Or.inl ⟨by rfl, fun w' hs => by have := HRD.out.2.1; go_simp⟩) SD.out ?_
      change wpAnyH _ _ _ _ _ _ _ (Act.put _ (some 65) _) _
      simp only [Act.put, List.setIfInBounds_toArray, List.set_cons_zero, List.set_cons_succ]
      refine wpAnyH_take (i := 11) (v := (.bool false)) rfl (by kernel_rfl) (by kernel_rfl) (by kernel_rfl) (fun _ _ _ h => h) (Or.inl ⟨by rfl, fun w' hs => by go_simp⟩) SD.out ?_
      change wpAnyH _ _ _ _ _ _ _ (Act.put _ (some 66) _) _
      simp only [Act.put, List.setIfInBounds_toArray, List.set_cons_zero, List.set_cons_succ]
      refine wpAnyH_take (i := 12) (v := (.bool false)) rfl (by kernel_rfl) (by kernel_rfl) (by kernel_rfl) (fun _ _ _ h => h) (Or.inl ⟨by rfl, fun w' hs => by go_simp⟩) SD.out ?_
      change wpAnyH _ _ _ _ _ _ _ (Act.put _ (some 67) _) _
      simp only [Act.put, List.setIfInBounds_toArray, List.set_cons_zero, List.set_cons_succ]
      refine wpAnyH_take (i := 13) (v := (.pointer (some ⟨u, 1, none⟩))) rfl (by kernel_rfl) (by kernel_rfl) (by kernel_rfl) (fun _ _ _ h => h) (Or.inl ⟨by rfl, fun w' hs => by go_simp⟩) SD.out ?_
      change wpAnyH _ _ _ _ _ _ _ (Act.put _ (some 68) _) _
      simp only [Act.put, List.setIfInBounds_toArray, List.set_cons_zero, List.set_cons_succ]
      refine wpAnyH_take (i := 14) (v := (.int .i64 (ts : Int))) rfl (by kernel_rfl) (by kernel_rfl) (by kernel_rfl) (fun _ _ _ h => h) (Or.inl ⟨by rfl, fun w' hs => by have y := (VU.out.keep hs).cell (i := 1) rfl; go_simp⟩) SD.out ?_
      change wpAnyH _ _ _ _ _ _ _ (Act.put _ (some 69) _) _
      simp only [Act.put, List.setIfInBounds_toArray, List.set_cons_zero, List.set_cons_succ]
      refine wpAnyH_take (i := 15) (v := (.agg #[.slice a0 n0 c0, .slice a1 n1 c1, .slice a2 n2 c2, .slice (some x3) n3 c3])) rfl (by kernel_rfl) (by kernel_rfl) (by kernel_rfl) (fun _ _ _ h => h) (Or.inl ⟨by rfl, fun w' hs => by have hp := VQ6.out.keep hs; have y0 := hp.cell (i := 0) rfl; have y1 := hp.cell (i := 1) rfl; have y2 := hp.cell (i := 2) rfl; have y3 := hp.cell (i := 3) rfl; go_simp⟩) SD.out ?_
      change wpAnyH _ _ _ _ _ _ _ (Act.put _ (some 70) _) _
      simp only [Act.put, List.setIfInBounds_toArray, List.set_cons_zero, List.set_cons_succ]
      refine wpAnyH_take (i := 16) (v := (.int .i64 sj)) rfl (by kernel_rfl) (by kernel_rfl) (by kernel_rfl) (fun _ _ _ h => h) (Or.inl ⟨by rfl, fun w' hs => by go_simp⟩) SD.out ?_
      change wpAnyH _ _ _ _ _ _ _ (Act.put _ (some 71) _) _
      simp only [Act.put, List.setIfInBounds_toArray, List.set_cons_zero, List.set_cons_succ]
      refine wpAnyH_take (i := 17) (v := (.int .i64 rd)) rfl (by kernel_rfl) (by kernel_rfl) (by kernel_rfl) (fun _ _ _ h => h) (Or.inl ⟨by rfl, fun w' hs => by go_simp⟩) SD.out ?_
      change wpAnyH _ _ _ _ _ _ _ (Act.put _ (some 72) _) _
      simp only [Act.put, List.setIfInBounds_toArray, List.set_cons_zero, List.set_cons_succ]
      refine wpAnyH_take (i := 18) (v := (.int .i64 (Int.tmod sj rd))) rfl (by kernel_rfl) (by kernel_rfl) (by kernel_rfl) (fun _ _ _ h => h) (Or.inl ⟨by rfl, fun w' hs => by have nz : ¬ rd = 0 := (by have := HRD.out; omega); go_simp⟩) SD.out ?_
      change wpAnyH _ _ _ _ _ _ _ (Act.put _ (some 73) _) _
      simp only [Act.put, List.setIfInBounds_toArray, List.set_cons_zero, List.set_cons_succ]
      refine wpAnyH_ready (rs := [19]) (by kernel_rfl) (by simp) ?_
      refine AllReadyH.cons rfl (fun K hK => ?_) AllReadyH.nil
      rw [if_pos (by rfl)]
      go_simp
      refine (i_TurnAt _ _ _ _ _ _ _ _ _ _ _ _ P (Int.tmod sj rd) _ (HP6.out.stay SD.out) (cell_keep (on B6.out SD.out) HG.out)).mono ?_
      rintro e v1 ⟨rfl, b7⟩
      rw [tR_val CM.out.1, tG, CM.out.2, HT.out.1, HT.out.2.2.1]
      rw [show (P.plan.getD ((ts : Int)).toNat (0, 0)).1 = tg by rw [Int.toNat_natCast]; exact SLT.out.1]
      replace SD : Hid (Below W6.heap.size W6 v1) := on SD.out b7
      clear b7
      refine hK.out _ _ SD.out (fun _ => ?_)
      clear hK K
      refine wpAnyH_take (i := 20) (v := (.int .i64 (ts : Int))) rfl (by kernel_rfl) (by kernel_rfl) (by kernel_rfl) (fun _ _ _ h => h) (Or.inl ⟨by rfl, fun w' hs => by have hf := field_slot1; go_simp⟩) SD.out ?_
      change wpAnyH _ _ _ _ _ _ _ (Act.put _ (some 75) _) _
      simp only [Act.put, List.setIfInBounds_toArray, List.set_cons_zero, List.set_cons_succ]
      refine wpAnyH_take (i := 21) (v := (.bool false)) rfl (by kernel_rfl) (by kernel_rfl) (by kernel_rfl) (fun _ _ _ h => h) (Or.inl ⟨by rfl, fun w' hs => by go_simp⟩) SD.out ?_
      change wpAnyH _ _ _ _ _ _ _ (Act.put _ (some 76) _) _
      simp only [Act.put, List.setIfInBounds_toArray, List.set_cons_zero, List.set_cons_succ]
      refine wpAnyH_take (i := 22) (v := (.bool false)) rfl (by kernel_rfl) (by kernel_rfl) (by kernel_rfl) (fun _ _ _ h => h) (Or.inl ⟨by rfl, fun w' hs => by go_simp⟩) SD.out ?_
      change wpAnyH _ _ _ _ _ _ _ (Act.put _ (some 77) _) _
      simp only [Act.put, List.setIfInBounds_toArray, List.set_cons_zero, List.set_cons_succ]
      refine wpAnyH_take (i := 23) (v := (.bool false)) rfl (by kernel_rfl) (by kernel_rfl) (by kernel_rfl) (fun _ _ _ h => h) (Or.inl ⟨by rfl, fun w' hs => by go_simp⟩) SD.out ?_
      change wpAnyH _ _ _ _ _ _ _ (Act.put _ (some 78) _) _
      simp only [Act.put, List.setIfInBounds_toArray, List.set_cons_zero, List.set_cons_succ]
      refine wpAnyH_take (i := 24) (v := (.pointer (some ⟨u, 2, none⟩))) rfl (by kernel_rfl) (by kernel_rfl) (by kernel_rfl) (fun _ _ _ h => h) (Or.inl ⟨by rfl, fun w' hs => by go_simp⟩) SD.out ?_
      change wpAnyH _ _ _ _ _ _ _ (Act.put _ (some 79) _) _
      simp only [Act.put, List.setIfInBounds_toArray, List.set_cons_zero, List.set_cons_succ]
      refine wpAnyH_take (i := 25) (v := (.pointer (some ⟨u, 2, none⟩))) rfl (by kernel_rfl) (by kernel_rfl) (by kernel_rfl) (fun _ _ _ h => h) (Or.inl ⟨by rfl, fun w' hs => by go_simp⟩) SD.out ?_
      change wpAnyH _ _ _ _ _ _ _ (Act.put _ (some 80) _) _
      simp only [Act.put, List.setIfInBounds_toArray, List.set_cons_zero, List.set_cons_succ]
      refine wpAnyH_take (i := 26) (v := (.int .i64 tg)) rfl (by kernel_rfl) (by kernel_rfl) (by kernel_rfl) (fun _ _ _ h => h) (Or.inl ⟨by rfl, fun w' hs => by have y := (VU.out.keep hs).cell (i := 2) rfl; go_simp⟩) SD.out ?_
      change wpAnyH _ _ _ _ _ _ _ (Act.put _ (some 81) _) _
      simp only [Act.put, List.setIfInBounds_toArray, List.set_cons_zero, List.set_cons_succ]
      refine wpAnyH_take (i := 27) (v := (.pointer (some ⟨q, 3, none⟩))) rfl (by kernel_rfl) (by kernel_rfl) (by kernel_rfl) (fun _ _ _ h => h) (Or.inl ⟨by rfl, fun w' hs => by go_simp⟩) SD.out ?_
      change wpAnyH _ _ _ _ _ _ _ (Act.put _ (some 82) _) _
      simp only [Act.put, List.setIfInBounds_toArray, List.set_cons_zero, List.set_cons_succ]
      refine wpAnyH_take (i := 28) (v := (.slice (some x3) n3 c3)) rfl (by kernel_rfl) (by kernel_rfl) (by kernel_rfl) (fun _ _ _ h => h) (Or.inl ⟨by rfl, fun w' hs => by have hp := VQ6.out.keep hs; have y3 := hp.cell (i := 3) rfl; go_simp⟩) SD.out ?_
      change wpAnyH _ _ _ _ _ _ _ (Act.put _ (some 83) _) _
      simp only [Act.put, List.setIfInBounds_toArray, List.set_cons_zero, List.set_cons_succ]
      refine wpAnyH_take (i := 29) (v := (.pointer (some ⟨u, 1, none⟩))) rfl (by kernel_rfl) (by kernel_rfl) (by kernel_rfl) (fun _ _ _ h => h) (Or.inl ⟨by rfl, fun w' hs => by go_simp⟩) SD.out ?_
      change wpAnyH _ _ _ _ _ _ _ (Act.put _ (some 84) _) _
      simp only [Act.put, List.setIfInBounds_toArray, List.set_cons_zero, List.set_cons_succ]
      refine wpAnyH_take (i := 30) (v := (.int .i64 (ts : Int))) rfl (by kernel_rfl) (by kernel_rfl) (by kernel_rfl) (fun _ _ _ h => h) (Or.inl ⟨by rfl, fun w' hs => by have y := (VU.out.keep hs).cell (i := 1) rfl; go_simp⟩) SD.out ?_
      change wpAnyH _ _ _ _ _ _ _ (Act.put _ (some 85) _) _
      simp only [Act.put, List.setIfInBounds_toArray, List.set_cons_zero, List.set_cons_succ]
      refine wpAnyH_take (i := 31) (v := (.pointer (some (x3.add (ts * 2))))) rfl (by kernel_rfl) (by kernel_rfl) (by kernel_rfl) (fun _ _ _ h => h) (Or.inl ⟨by rfl, fun w' hs => by have l3 := LT3.out; go_simp⟩) SD.out ?_
      change wpAnyH _ _ _ _ _ _ _ (Act.put _ (some 86) _) _
      simp only [Act.put, List.setIfInBounds_toArray, List.set_cons_zero, List.set_cons_succ]
      refine wpAnyH_take (i := 32) (v := (.pointer (some (x3.add (ts * 2))))) rfl (by kernel_rfl) (by kernel_rfl) (by kernel_rfl) (fun _ _ _ h => h) (Or.inl ⟨by rfl, fun w' hs => by go_simp⟩) SD.out ?_
      change wpAnyH _ _ _ _ _ _ _ (Act.put _ (some 87) _) _
      simp only [Act.put, List.setIfInBounds_toArray, List.set_cons_zero, List.set_cons_succ]
      refine wpAnyH_take (i := 33) (v := (.int .i64 tg)) rfl (by kernel_rfl) (by kernel_rfl) (by kernel_rfl) (fun _ _ _ h => h) (Or.inl ⟨by rfl, fun w' hs => by have k := (PC.out w' hs).1; go_simp⟩) SD.out ?_
      change wpAnyH _ _ _ _ _ _ _ (Act.put _ (some 88) _) _
      simp only [Act.put, List.setIfInBounds_toArray, List.set_cons_zero, List.set_cons_succ]
      refine wpAnyH_take (i := 34) (v := (.bool false)) rfl (by kernel_rfl) (by kernel_rfl) (by kernel_rfl) (fun _ _ _ h => h) (Or.inl ⟨by rfl, fun w' hs => by go_simp⟩) SD.out ?_
      change wpAnyH _ _ _ _ _ _ _ (Act.put _ (some 89) _) _
      simp only [Act.put, List.setIfInBounds_toArray, List.set_cons_zero, List.set_cons_succ]
      refine wpAnyH_take (i := 35) (v := (.bool false)) rfl (by kernel_rfl) (by kernel_rfl) (by kernel_rfl) (fun _ _ _ h => h) (Or.inl ⟨by rfl, fun w' hs => by go_simp⟩) SD.out ?_
      change wpAnyH _ _ _ _ _ _ _ (Act.put _ (some 90) _) _
      simp only [Act.put, List.setIfInBounds_toArray, List.set_cons_zero, List.set_cons_succ]
      refine wpAnyH_take (i := 36) (v := (.bool false)) rfl (by kernel_rfl) (by kernel_rfl) (by kernel_rfl) (fun _ _ _ h => h) (Or.inl ⟨by rfl, fun w' hs => by go_simp⟩) SD.out ?_
      change wpAnyH _ _ _ _ _ _ _ (Act.put _ (some 91) _) _
      simp only [Act.put, List.setIfInBounds_toArray, List.set_cons_zero, List.set_cons_succ]
      refine wpAnyH_take (i := 37) (v := (.pointer (some ⟨u, 2, none⟩))) rfl (by kernel_rfl) (by kernel_rfl) (by kernel_rfl) (fun _ _ _ h => h) (Or.inl ⟨by rfl, fun w' hs => by go_simp⟩) SD.out ?_
      change wpAnyH _ _ _ _ _ _ _ (Act.put _ (some 92) _) _
      simp only [Act.put, List.setIfInBounds_toArray, List.set_cons_zero, List.set_cons_succ]
      refine wpAnyH_take (i := 38) (v := (.pointer (some ⟨u, 3, none⟩))) rfl (by kernel_rfl) (by kernel_rfl) (by kernel_rfl) (fun _ _ _ h => h) (Or.inl ⟨by rfl, fun w' hs => by go_simp⟩) SD.out ?_
      change wpAnyH _ _ _ _ _ _ _ (Act.put _ (some 93) _) _
      simp only [Act.put, List.setIfInBounds_toArray, List.set_cons_zero, List.set_cons_succ]
      refine wpAnyH_take (i := 39) (v := (.int .i64 tt)) rfl (by kernel_rfl) (by kernel_rfl) (by kernel_rfl) (fun _ _ _ h => h) (Or.inl ⟨by rfl, fun w' hs => by have y := (VU.out.keep hs).cell (i := 3) rfl; go_simp⟩) SD.out ?_
      change wpAnyH _ _ _ _ _ _ _ (Act.put _ (some 94) _) _
      simp only [Act.put, List.setIfInBounds_toArray, List.set_cons_zero, List.set_cons_succ]
      refine wpAnyH_take (i := 40) (v := (.bool false)) rfl (by kernel_rfl) (by kernel_rfl) (by kernel_rfl) (fun _ _ _ h => h) (Or.inl ⟨by rfl, fun w' hs => by have := HLE.out; go_simp⟩) SD.out ?_
      change wpAnyH _ _ _ _ _ _ _ (Act.put _ (some 95) _) _
      simp only [Act.put, List.setIfInBounds_toArray, List.set_cons_zero, List.set_cons_succ]
      refine wpAnyH_take (i := 41) (v := (.bool false)) rfl (by kernel_rfl) (by kernel_rfl) (by kernel_rfl) (fun _ _ _ h => h) (Or.inl ⟨by rfl, fun w' hs => by go_simp⟩) SD.out ?_
      change wpAnyH _ _ _ _ _ _ _ (Act.put _ (some 96) _) _
      simp only [Act.put, List.setIfInBounds_toArray, List.set_cons_zero, List.set_cons_succ]
      refine wpAnyH_take (i := 42) (v := (.bool false)) rfl (by kernel_rfl) (by kernel_rfl) (by kernel_rfl) (fun _ _ _ h => h) (Or.inl ⟨by rfl, fun w' hs => by go_simp⟩) SD.out ?_
      change wpAnyH _ _ _ _ _ _ _ (Act.put _ (some 97) _) _
      simp only [Act.put, List.setIfInBounds_toArray, List.set_cons_zero, List.set_cons_succ]
      refine wpAnyH_take (i := 43) (v := (.pointer (some ⟨u, 2, none⟩))) rfl (by kernel_rfl) (by kernel_rfl) (by kernel_rfl) (fun _ _ _ h => h) (Or.inl ⟨by rfl, fun w' hs => by go_simp⟩) SD.out ?_
      change wpAnyH _ _ _ _ _ _ _ (Act.put _ (some 98) _) _
      simp only [Act.put, List.setIfInBounds_toArray, List.set_cons_zero, List.set_cons_succ]
      refine wpAnyH_take (i := 44) (v := (.pointer (some ⟨u, 3, none⟩))) rfl (by kernel_rfl) (by kernel_rfl) (by kernel_rfl) (fun _ _ _ h => h) (Or.inl ⟨by rfl, fun w' hs => by go_simp⟩) SD.out ?_
      change wpAnyH _ _ _ _ _ _ _ (Act.put _ (some 99) _) _
      simp only [Act.put, List.setIfInBounds_toArray, List.set_cons_zero, List.set_cons_succ]
      refine wpAnyH_take (i := 45) (v := (.int .i64 tt)) rfl (by kernel_rfl) (by kernel_rfl) (by kernel_rfl) (fun _ _ _ h => h) (Or.inl ⟨by rfl, fun w' hs => by have y := (VU.out.keep hs).cell (i := 3) rfl; go_simp⟩) SD.out ?_
      change wpAnyH _ _ _ _ _ _ _ (Act.put _ (some 100) _) _
      simp only [Act.put, List.setIfInBounds_toArray, List.set_cons_zero, List.set_cons_succ]
      refine wpAnyH_take (i := 46) (v := (.pointer (some ⟨q, 3, none⟩))) rfl (by kernel_rfl) (by kernel_rfl) (by kernel_rfl) (fun _ _ _ h => h) (Or.inl ⟨by rfl, fun w' hs => by go_simp⟩) SD.out ?_
      change wpAnyH _ _ _ _ _ _ _ (Act.put _ (some 101) _) _
      simp only [Act.put, List.setIfInBounds_toArray, List.set_cons_zero, List.set_cons_succ]
      refine wpAnyH_take (i := 47) (v := (.slice (some x3) n3 c3)) rfl (by kernel_rfl) (by kernel_rfl) (by kernel_rfl) (fun _ _ _ h => h) (Or.inl ⟨by rfl, fun w' hs => by have hp := VQ6.out.keep hs; have y3 := hp.cell (i := 3) rfl; go_simp⟩) SD.out ?_
      change wpAnyH _ _ _ _ _ _ _ (Act.put _ (some 102) _) _
      simp only [Act.put, List.setIfInBounds_toArray, List.set_cons_zero, List.set_cons_succ]
      refine wpAnyH_take (i := 48) (v := (.pointer (some ⟨u, 1, none⟩))) rfl (by kernel_rfl) (by kernel_rfl) (by kernel_rfl) (fun _ _ _ h => h) (Or.inl ⟨by rfl, fun w' hs => by go_simp⟩) SD.out ?_
      change wpAnyH _ _ _ _ _ _ _ (Act.put _ (some 103) _) _
      simp only [Act.put, List.setIfInBounds_toArray, List.set_cons_zero, List.set_cons_succ]
      refine wpAnyH_take (i := 49) (v := (.int .i64 (ts : Int))) rfl (by kernel_rfl) (by kernel_rfl) (by kernel_rfl) (fun _ _ _ h => h) (Or.inl ⟨by rfl, fun w' hs => by have y := (VU.out.keep hs).cell (i := 1) rfl; go_simp⟩) SD.out ?_
      change wpAnyH _ _ _ _ _ _ _ (Act.put _ (some 104) _) _
      simp only [Act.put, List.setIfInBounds_toArray, List.set_cons_zero, List.set_cons_succ]
      refine wpAnyH_take (i := 50) (v := (.pointer (some (x3.add (ts * 2))))) rfl (by kernel_rfl) (by kernel_rfl) (by kernel_rfl) (fun _ _ _ h => h) (Or.inl ⟨by rfl, fun w' hs => by have l3 := LT3.out; go_simp⟩) SD.out ?_
      change wpAnyH _ _ _ _ _ _ _ (Act.put _ (some 105) _) _
      simp only [Act.put, List.setIfInBounds_toArray, List.set_cons_zero, List.set_cons_succ]
      refine wpAnyH_take (i := 51) (v := (.pointer (some ⟨(x3.add (ts * 2)).block, (x3.add (ts * 2)).off + 1, none⟩))) rfl (by kernel_rfl) (by kernel_rfl) (by kernel_rfl) (fun _ _ _ h => h) (Or.inl ⟨by rfl, fun w' hs => by go_simp⟩) SD.out ?_
      change wpAnyH _ _ _ _ _ _ _ (Act.put _ (some 106) _) _
      simp only [Act.put, List.setIfInBounds_toArray, List.set_cons_zero, List.set_cons_succ]
      refine wpAnyH_take (i := 52) (v := (.int .i64 pl)) rfl (by kernel_rfl) (by kernel_rfl) (by kernel_rfl) (fun _ _ _ h => h) (Or.inl ⟨by rfl, fun w' hs => by have k := (PC.out w' hs).2; go_simp⟩) SD.out ?_
      change wpAnyH _ _ _ _ _ _ _ (Act.put _ (some 107) _) _
      simp only [Act.put, List.setIfInBounds_toArray, List.set_cons_zero, List.set_cons_succ]
      refine wpAnyH_take (i := 53) (v := (.bool false)) rfl (by kernel_rfl) (by kernel_rfl) (by kernel_rfl) (fun _ _ _ h => h) (Or.inl ⟨by rfl, fun w' hs => by have := HLE.out; go_simp⟩) SD.out ?_
      change wpAnyH _ _ _ _ _ _ _ (Act.put _ (some 108) _) _
      simp only [Act.put, List.setIfInBounds_toArray, List.set_cons_zero, List.set_cons_succ]
      refine wpAnyH_take (i := 54) (v := (.bool false)) rfl (by kernel_rfl) (by kernel_rfl) (by kernel_rfl) (fun _ _ _ h => h) (Or.inl ⟨by rfl, fun w' hs => by go_simp⟩) SD.out ?_
      change wpAnyH _ _ _ _ _ _ _ (Act.put _ (some 109) _) _
      simp only [Act.put, List.setIfInBounds_toArray, List.set_cons_zero, List.set_cons_succ]
      refine wpAnyH_done (by kernel_rfl) ?_ _
      have VT7 : Hid (Bk v1 t #[.int .i64 0, .int .i64 v2] 33) := (VT.out.keep AL.out).keep SD.out
      have VU7 : Hid (Bk v1 u #[.int .i64 0, .int .i64 (ts : Int), .int .i64 tg, .int .i64 tt] 39) := VU.out.keep SD.out
      have VQ7 : Hid (Bk v1 q #[.slice a0 n0 c0, .slice a1 n1 c1, .slice a2 n2 c2, .slice (some x3) n3 c3] 29) := VQ6.out.keep SD.out
      by_cases hM : sj = 1000000
      · go_wp2_with fail
        go_ret
        exact ⟨rfl, on B6.out SD.out⟩
      · have HM : Hid (sj ≠ 1000000) := hM
        have w3 : -9223372036854775808 ≤ sj + 1 ∧ sj + 1 ≤ 9223372036854775807 := by have := PF.out; omega
        have q0 := VQ7.out.cell (i := 0) rfl
        have q1 := VQ7.out.cell (i := 1) rfl
        have q2 := VQ7.out.cell (i := 2) rfl
        have q3 := VQ7.out.cell (i := 3) rfl
        go_wp2_with fail
        clear q0 q1 q2 q3
        refine (i_TurnsBefore _ _ _ _ _ _ _ _ _ _ _ _ P (sj + 1) gu _ (HP6.out.stay SD.out) (cell_keep (on B6.out SD.out) HG.out)).mono ?_
        rintro e w8 ⟨rfl, b8⟩
        rw [tb_val (ck_val PF.out.1 (by have := PF.out; omega) (by have := PF.out; have := HM.out; omega)) CK.out.2.1, tb_more P PF.out.1 sj gu PF.out.2.1, ← CK.out.2.2, HT.out.2.1]
        have SUM1 : tbV P sj gu ≤ sj := by
          have h0 := CK.out.2.1
          rw [isG_iff] at h0
          obtain ⟨gn, hgn⟩ := Int.eq_ofNat_of_zero_le (a := gu) (by omega)
          have h := sum_one _ NN.out gn n0 (by have := HN.out.1; omega)
          rw [SUM.out, ← hgn] at h
          exact h
        have A2 : Hid (0 ≤ v2 ∧ v2 ≤ 1000000) := by
          have h := CK.out.2.2
          have h0 := NN.out gu
          have := PF.out
          show _ ∧ _
          omega
        clear SUM1
        by_cases hgu : tg = gu
        · rw [if_pos hgu]
          skip
          obtain ⟨s9, hs9⟩ : ∃ z, w8.heap.size = z := ⟨_, rfl⟩
          have VA : Hid (Bk (w8.alloc (.cells #[.int .i64 0, .int .i64 (v2 + 1)] 33)) s9 #[.int .i64 0, .int .i64 (v2 + 1)] 33) := by show Bk _ _ _ _; rw [← hs9]; exact Bk.new _ _ _
          have AL9 : Hid (Below W6.heap.size W6 (w8.alloc (.cells #[.int .i64 0, .int .i64 (v2 + 1)] 33))) := al (on SD.out b8) _
          have VT9 : Hid (Bk (w8.alloc (.cells #[.int .i64 0, .int .i64 (v2 + 1)] 33)) t #[.int .i64 0, .int .i64 v2] 33) := (VT.out.keep AL.out).keep AL9.out
          have VU9 : Hid (Bk (w8.alloc (.cells #[.int .i64 0, .int .i64 (v2 + 1)] 33)) u #[.int .i64 0, .int .i64 (ts : Int), .int .i64 tg, .int .i64 tt] 39) := VU.out.keep AL9.out
          have w4 : -9223372036854775808 ≤ v2 + 1 ∧ v2 + 1 ≤ 9223372036854775807 := by have := A2.out; omega
          go_upto_region 19 with fail
          try rw [hs9]
          generalize w8.alloc (.cells #[.int .i64 0, .int .i64 (v2 + 1)] 33) = W9 at *
          clear hs9 b8
          have y1 := VA.out.cell (i := 1) rfl
          have y2 := VT9.out.cell (i := 1) rfl
          have y3 := VU9.out.cell (i := 2) rfl
          go_wp2_with fail
          go_ret
          refine ⟨?_, on B6.out AL9.out⟩
          first
            | rfl
            | (show Ending.returned (.bool (decide (v2 ≤ v2 + 1))) = .returned (.bool true); rw [decide_eq_true (show v2 ≤ v2 + 1 by omega)])
        · rw [if_neg hgu]
          rw [Int.add_zero]
          obtain ⟨s9, hs9⟩ : ∃ z, w8.heap.size = z := ⟨_, rfl⟩
          have VA : Hid (Bk (w8.alloc (.cells #[.int .i64 0, .int .i64 v2] 33)) s9 #[.int .i64 0, .int .i64 v2] 33) := by show Bk _ _ _ _; rw [← hs9]; exact Bk.new _ _ _
          have AL9 : Hid (Below W6.heap.size W6 (w8.alloc (.cells #[.int .i64 0, .int .i64 v2] 33))) := al (on SD.out b8) _
          have VT9 : Hid (Bk (w8.alloc (.cells #[.int .i64 0, .int .i64 v2] 33)) t #[.int .i64 0, .int .i64 v2] 33) := (VT.out.keep AL.out).keep AL9.out
          have VU9 : Hid (Bk (w8.alloc (.cells #[.int .i64 0, .int .i64 v2] 33)) u #[.int .i64 0, .int .i64 (ts : Int), .int .i64 tg, .int .i64 tt] 39) := VU.out.keep AL9.out
          have w4 : -9223372036854775808 ≤ v2 + 1 ∧ v2 + 1 ≤ 9223372036854775807 := by have := A2.out; omega
          go_upto_region 19 with fail
          try rw [hs9]
          generalize w8.alloc (.cells #[.int .i64 0, .int .i64 v2] 33) = W9 at *
          clear hs9 b8
          have y1 := VA.out.cell (i := 1) rfl
          have y2 := VT9.out.cell (i := 1) rfl
          have y3 := VU9.out.cell (i := 2) rfl
          have hb1 : (v2 == v2 + 1) = false := by rw [beq_eq_false_iff_ne]; omega
          have hb2 : (tg == gu) = false := by rw [beq_eq_false_iff_ne]; exact hgu
          go_wp2_with fail
          all_goals first
            | (exfalso; rename_i hx; exact hx (by rw [hb1, hb2]))
            | (go_ret; refine ⟨?_, on B6.out AL9.out⟩; rfl)
            | (go_ret; refine ⟨?_, on B6.out AL9.out⟩; show Ending.returned (.bool (decide (v2 ≤ v2))) = .returned (.bool true); rw [decide_eq_true (show v2 ≤ v2 by omega)])

theorem gEt : Tryd.prog.globalNamed "errors.errorType" = some 0 := by kernel_rfl
theorem gRt : (Tryd.prog.cutTypes.find? (·.1 == "internal/reflectlite.rtype")).map (·.2) = some 99 := by kernel_rfl
theorem gRow : ((List.range 146).filter fun t => Tryd.prog.rowNamed t [101, 114, 114, 111, 114]) = [67] := by kernel_rfl
theorem gSize : Tryd.prog.types.size = 146 := by kernel_rfl
theorem handle {W : World} (h : laidMetH Tryd.prog Rows.fnTurnsRow.laid W) : W.cell? ⟨0, 0, none⟩ = some (.iface 99 (.agg #[.pointer (some ⟨1, 67, none⟩)])) := by
  have h' : laidMet Tryd.prog [] W ∧ handlesMet Tryd.prog Rows.fnTurnsRow.laid W := h
  obtain ⟨name, u, ty, e1, e2, e3, e4, e5⟩ := h'.2 _ (List.mem_singleton.2 rfl)
  have en : name = [101, 114, 114, 111, 114] := (Option.some.inj e1).symm
  subst en
  obtain rfl := Option.some.inj (gRt.symm.trans e2)
  have hm : ty ∈ (List.range 146).filter fun t => Tryd.prog.rowNamed t [101, 114, 114, 111, 114] := List.mem_filter.2 ⟨List.mem_range.2 (by rw [← gSize]; exact e3), e4⟩
  rw [gRow] at hm
  obtain rfl := List.mem_singleton.1 hm
  have hh : typeHandle Tryd.prog 67 = .pointer (some ⟨1, 67, none⟩) := by kernel_rfl
  rw [hh] at e5
  simpa using World.var?_cell gEt e5 0

set_option maxRecDepth 100000 in
theorem contract (H : Type) (enc : TypeId × Value → H) (W : World) (base : Nat) (args : Array Value) (ds gs : List (DataW H)) (before : List MemPlace)
    (hval0 : ∀ (j : Nat) t v, Tryd.f3.params[j]? = some t → args[j]? = some v → Value.okWide Tryd.prog W .any base t v)
    (hW : DataW.Whole enc Tryd.prog Tryd.f3.params.toList Rows.fnTurnsSpec.vars false W args.toList ds gs before) (hL : laidMetH Tryd.prog Rows.fnTurnsRow.laid W) :
    Calls Tryd.prog 3 args W fun e W' => ∃ v, e = .returned v ∧ Rows.fnTurnsSpec.post enc Tryd.prog Tryd.f3 false true false false W args v W' := by
  have hval : ∀ (j : Nat) t v, Tryd.f3.params[j]? = some t → args[j]? = some v → Value.okWide Tryd.prog W .any base t v := hval0
  have hW' := hW
  obtain ⟨p, q, hA0, hV, rfl, hfz, hnd⟩ := hW
  have hA : DataW.TrodAll enc Tryd.prog W 0 (fun _ => true) true Tryd.f3.params.toList args.toList ds p := hA0
  rw [Tryd.params3] at hA hval
  obtain ⟨v0, vs0, d0, ds0, p0, q0, hargs, rfl, rfl, h0, r0⟩ := trodAll_cons hA
  obtain ⟨rfl, rfl, rfl⟩ := trodAll_nil r0
  obtain rfl : args = #[v0] := by cases args; simp_all
  obtain ⟨rfl, rfl⟩ := trodVars_none hV
  obtain ⟨a0, len0, cap0, rfl⟩ := okWide_slice Tryd.underlying22 (hval 0 22 v0 rfl rfl)
  have k0 := h0
  have lt0 : ∀ x ∈ p0, x.block < W.heap.size := by obtain ⟨m, hm⟩ := k0; exact DataW.trod_lt m _ _ _ hm
  obtain ⟨z0, w0⟩ : ∃ zs, IsRow .u8 W a0 len0 cap0 zs := by
    obtain ⟨fuel, hf⟩ := h0
    rcases open_ints Tryd.underlying22 Tryd.underlying5 (by kernel_rfl) hf with ⟨hcs, _⟩ | ⟨x, l, c, zs, hcs, _, hl, hm, hz, _, hcell, hwz⟩
    · simp [Value.cells] at hcs
      obtain ⟨rfl, rfl, rfl⟩ := hcs
      exact ⟨[], .inl ⟨rfl, rfl, rfl, rfl⟩⟩
    · simp [Value.cells] at hcs
      obtain ⟨rfl, rfl, rfl⟩ := hcs
      exact ⟨_, IsRow.of_all hl hm (by simpa using hz) hcell hwz⟩
  clear hA0 hval0
  refine (walk a0 len0 cap0 z0 W w0 (handle hL)).mono fun e W' ⟨he, bel⟩ => ?_
  subst he
  exact ⟨_, rfl, _, _, _, [], _, [], hW', trodAll_mk1 (shut_bool Tryd.underlying4 _), (trodAll_cons_mk (Below.trod laidOut (by kernel_rfl) (of_decide_eq_true (by kernel_rfl)) k0 bel lt0) trodAll_mk0), rfl, bel.frame _, fun h => by cases h⟩

theorem laid_met (os : Go.Os) : laidMetH Tryd.prog Rows.fnTurnsRow.laid (({ World.holding Tryd.prog os ⟨#[], #[], []⟩ with heap := ((World.holding Tryd.prog os ⟨#[], #[], []⟩).heap.modify 0 fun
      | .cells _ t frozen => .cells #[.iface 99 (.agg #[.pointer (some ⟨1, 67, none⟩)])] t frozen
      | o => o) } : World).forCall (fun _ _ => 0) ⟨#[], #[.slice none 0 0], []⟩).memory :=
  laidMetH_of_parts (laidMet_nil _ _) (by kernel_rfl)
theorem reads (os : Go.Os) {H : Type} (enc : TypeId × Value → H) : ∃ places, DataW.whole enc Tryd.prog (({ World.holding Tryd.prog os ⟨#[], #[], []⟩ with heap := ((World.holding Tryd.prog os ⟨#[], #[], []⟩).heap.modify 0 fun
      | .cells _ t frozen => .cells #[.iface 99 (.agg #[.pointer (some ⟨1, 67, none⟩)])] t frozen
      | o => o) } : World).forCall (fun _ _ => 0) ⟨#[], #[.slice none 0 0], []⟩).memory Tryd.f3.params.toList Rows.fnTurnsSpec.vars false (#[.slice none 0 0] : Array Value).toList 8 = some ([.nil], [], places) :=
  ⟨[], by kernel_rfl⟩
set_option maxRecDepth 100000 in
theorem lifted (os : Go.Os) (started : os.Started) (H : Type) (enc : TypeId × Value → H) (F : Stop.Interp) :
    ReturnsInHanded {} Tryd.checked os 3 .any ((OpenSpec.ofChange Rows.fnTurnsSpec).preRow enc Tryd.prog Tryd.f3 Rows.fnTurnsRow.domain false Rows.fnTurnsRow.laid) (((OpenSpec.ofChange Rows.fnTurnsSpec).at F).post enc Tryd.prog Tryd.f3 false true false false) := by
  obtain ⟨places, hx⟩ := reads os enc
  refine returnsInHanded_of_row (C := Tryd.checked) (s := OpenSpec.ofChange Rows.fnTurnsSpec) own started (by kernel_rfl) Tryd.func3
    (witness_row_at (enc := enc) (C := Tryd.checked) false ({ World.holding Tryd.prog os ⟨#[], #[], []⟩ with heap := ((World.holding Tryd.prog os ⟨#[], #[], []⟩).heap.modify 0 fun
      | .cells _ t frozen => .cells #[.iface 99 (.agg #[.pointer (some ⟨1, 67, none⟩)])] t frozen
      | o => o) } : World) #[.slice none 0 0] rfl (by kernel_rfl) (by kernel_rfl) (by kernel_rfl)
      (OpenSpec.preRow_of_cond 8 hx (by kernel_rfl) (fun k hk => by cases hk) (by kernel_rfl) (laid_met os))) ?_
  intro W base args ds gs before hval hW _ _ _ hL _ _
  exact contract H enc W base args ds gs before hval hW hL

theorem said : Rows.FnTurnsSaid :=
  OpenClaim.holds_of_cond 3 Tryd.f3 rfl rfl rfl rfl rfl rfl rfl ⟨rfl, rfl, rfl, rfl, rfl⟩ rfl rfl rfl rfl rfl (by kernel_rfl) Tryd.func3 (by kernel_rfl)
    (of_decide_eq_true (by kernel_rfl)) (by unfold Func.isWrapper; first | (rw [if_pos (by decide +kernel)]; kernel_rfl) | (rw [if_neg (by decide +kernel)]; exact ⟨rfl, rfl⟩))
    (fun os started H enc _ F => by rw [OpenClaim.pre_eq_preRow]; exact lifted os started H enc F)
theorem plain (f : FuncId) (fn : Func) (hf : Tryd.pinned.checked.prog.funcNamed "loop.example/g00213/laws.FnTurns" = some f) (hfn : Tryd.pinned.checked.prog.funcs[f]? = some fn) :
    true = Tryd.pinned.checked.prog.looks [] ∧ ∀ (j : Nat) t, fn.params[j]? = some t → Tryd.pinned.checked.prog.wantsStandIn t = false := by
  obtain rfl : f = 3 := Option.some.inj ((show Tryd.prog.funcNamed "loop.example/g00213/laws.FnTurns" = some 3 by kernel_rfl).symm.trans hf) |>.symm
  obtain rfl : fn = Tryd.f3 := (Option.some.inj (Tryd.func3.symm.trans hfn)).symm
  refine ⟨by kernel_rfl, fun j t ht => ?_⟩
  rw [Tryd.params3] at ht
  have hm : t = 22 := by simpa using Array.mem_of_getElem? ht
  rcases hm with rfl
  · exact (show Tryd.prog.wantsStandIn 22 = false by kernel_rfl)
theorem proved : Rows.FnTurnsCardSaid :=
  Claim7.holds_tied_plain_at .later [] _ _ _ _ said (fun _ h => by cases h) (by kernel_rfl) (fun _ h => by cases h) fnTurns_row_tie rfl ⟨rfl, rfl⟩ (by kernel_rfl) rfl plain (by kernel_rfl)
end Go.Proofs.YteilidnlfocnaaaDoor.fnTurnsDone
