/- Draws of policies and guests. -/
import Derived.Test.YtddeaibkdpomlaaGreatDoorDpe
import Derived.Test.YtddeaibkdpomlaaGreatDoorWide
import Derived.Deep.RegionHeld3
namespace Go.Proofs.YtddeaibkdpomlaaGreatDoor
open Go.RowKit
set_option linter.unusedVariables false

theorem fourR {v : World} {q : Nat} {t : TypeId} {z0 z1 z2 z3 : Value} (h : Bk v q #[z0, z1, z2, z3] t) (u0 u1 u2 u3 : Value) :
    Bk ((((v.setCell ⟨q, 0, none⟩ u0).setCell ⟨q, 1, none⟩ u1).setCell ⟨q, 2, none⟩ u2).setCell ⟨q, 3, none⟩ u3) q #[u0, u1, u2, u3] t := by
  have h0 : Bk (v.setCell ⟨q, 0, none⟩ u0) q #[u0, z1, z2, z3] t := h.set 0 u0
  have h1 : Bk ((v.setCell ⟨q, 0, none⟩ u0).setCell ⟨q, 1, none⟩ u1) q #[u0, u1, z2, z3] t := h0.set 1 u1
  have h2 : Bk (((v.setCell ⟨q, 0, none⟩ u0).setCell ⟨q, 1, none⟩ u1).setCell ⟨q, 2, none⟩ u2) q #[u0, u1, u2, z3] t := h1.set 2 u2
  exact h2.set 3 u3
set_option maxRecDepth 20000 in
set_option maxHeartbeats 8000000 in
theorem drawWith {w : World} {a : Option Addr} {len cap : Nat} {zs : List Int} (hr : IsRow .u8 w a len cap zs) :
    Calls Tryz.prog 13 #[.slice a len cap] w fun e w' => ∃ v0 v1 v2 v3 P cl, e = .returned (.tuple #[.agg #[v0, v1, v2, v3], .int .i64 cl]) ∧ Dv w' w.heap.size v0 v1 v2 v3 P ∧ Below w.heap.size w w' := by
  have HR : Hid (IsRow .u8 w a len cap zs) := hr
  obtain ⟨s0, hs0⟩ : ∃ s, w.heap.size = s := ⟨_, rfl⟩
  have S0 : Hid (w.heap.size ≤ s0) := by show _ ≤ _; omega
  have SE : Hid (w.heap.size = s0) := hs0
  clear hr
  go_enter Tryz.func13, Tryz.ntmps13
  go_wp2_with fail
  have A0 : Hid (Below w.heap.size w (w.alloc (.cells #[.slice none 0 0, .slice none 0 0, .slice none 0 0, .slice none 0 0] 29))) := al (Below.refl _ _) _
  have R0 : Hid (Bk (w.alloc (.cells #[.slice none 0 0, .slice none 0 0, .slice none 0 0, .slice none 0 0] 29)) s0 #[.slice none 0 0, .slice none 0 0, .slice none 0 0, .slice none 0 0] 29) := by show Bk _ _ _ _; rw [← hs0]; exact Bk.new _ _ _
  have Z0 : Hid (s0 + 1 = (w.alloc (.cells #[.slice none 0 0, .slice none 0 0, .slice none 0 0, .slice none 0 0] 29)).heap.size) := by show _ = _; simp; omega
  try rw [hs0]
  generalize w.alloc (.cells #[.slice none 0 0, .slice none 0 0, .slice none 0 0, .slice none 0 0] 29) = W at *
  clear hs0
  refine (source_any (HR.out.below A0.out)).mono ?_
  rintro e w1 ⟨rfl, b1, sr⟩
  have B1 : Hid (Below W.heap.size W w1) := b1
  have SR : Hid (Src w1 W.heap.size 0 a len cap zs) := sr
  obtain ⟨b, hb⟩ : ∃ b, W.heap.size = b := ⟨_, rfl⟩
  have BE : Hid (W.heap.size = b) := hb
  rw [hb] at SR ⊢
  have R1 : Hid (Bk w1 s0 #[.slice none 0 0, .slice none 0 0, .slice none 0 0, .slice none 0 0] 29) := R0.out.keep b1
  clear b1 sr hb
  go_wp2_with fail
  refine (bentp_any SR.out (by decide)).mono ?_
  rintro e w2 ⟨_, _, _, _, P, k, rfl, dv, hk, tn, s2⟩
  obtain ⟨a0, c0, a1, c1, a2, c2, a3, c3, e0, e1, e2, e3⟩ := dv.shape
  subst e0 e1 e2 e3
  obtain ⟨n0, hn0⟩ : ∃ n, P.own.length = n := ⟨_, rfl⟩
  obtain ⟨n1, hn1⟩ : ∃ n, P.lanes.length = n := ⟨_, rfl⟩
  obtain ⟨n2, hn2⟩ : ∃ n, P.bells.length = n := ⟨_, rfl⟩
  obtain ⟨n3, hn3⟩ : ∃ n, P.plan.length = n := ⟨_, rfl⟩
  rw [hn0, hn1, hn2, hn3] at dv ⊢
  clear hn0 hn1 hn2 hn3
  have DV : Hid (Dv w2 w1.heap.size (.slice a0 n0 c0) (.slice a1 n1 c1) (.slice a2 n2 c2) (.slice a3 n3 c3) P) := dv
  have B2 : Hid (Below w.heap.size w w2) := by
    have h1 := SE.out
    have h2 := Z0.out
    have h3 := BE.out
    have h4 := B1.out.size
    have hx := on A0.out B1.out
    exact hx.trans (tn.below (by omega) hx.size)
  have R2 : Hid (Bk w2 s0 #[.slice none 0 0, .slice none 0 0, .slice none 0 0, .slice none 0 0] 29) := R1.out.turn tn (by have := Z0.out; have := BE.out; omega)
  have S2 : Hid (Src w2 b k a len cap zs ∧ k ≤ 200) := ⟨s2, by omega⟩
  have L1 : Hid (s0 < b ∧ b < w1.heap.size ∧ w1.heap.size ≤ w2.heap.size) := ⟨by have := Z0.out; have := BE.out; omega, SR.out.here, tn.size⟩
  clear dv tn s2 hk
  go_upto_region 3 with fail
  have A2 : Hid (Below w2.heap.size w2 (w2.alloc (.cells #[.slice a0 n0 c0, .slice a1 n1 c1, .slice a2 n2 c2, .slice a3 n3 c3] 29))) := al (Below.refl _ _) _
  obtain ⟨t, ht⟩ : ∃ t, w2.heap.size = t := ⟨_, rfl⟩
  have TE : Hid (w2.heap.size = t) := ht
  have TV : Hid (Bk (w2.alloc (.cells #[.slice a0 n0 c0, .slice a1 n1 c1, .slice a2 n2 c2, .slice a3 n3 c3] 29)) t #[.slice a0 n0 c0, .slice a1 n1 c1, .slice a2 n2 c2, .slice a3 n3 c3] 29) := by show Bk _ _ _ _; rw [← ht]; exact Bk.new _ _ _
  rw [ht]
  generalize w2.alloc (.cells #[.slice a0 n0 c0, .slice a1 n1 c1, .slice a2 n2 c2, .slice a3 n3 c3] 29) = W3 at *
  clear ht
  have TB : Hid (Bk W3.drew t #[.slice a0 n0 c0, .slice a1 n1 c1, .slice a2 n2 c2, .slice a3 n3 c3] 29) := TV.out.keep (Below.refl _ _).drew
  have RB : Hid (Bk W3.drew s0 #[.slice none 0 0, .slice none 0 0, .slice none 0 0, .slice none 0 0] 29) := (R2.out.keep A2.out).keep (Below.refl _ _).drew
  have DVX : Hid (Dv W3.drew w1.heap.size (.slice a0 n0 c0) (.slice a1 n1 c1) (.slice a2 n2 c2) (.slice a3 n3 c3) P) := (DV.out.keep A2.out).keep (Below.refl _ _).drew
  have BX : Hid (Below w.heap.size w W3.drew) := (on B2.out A2.out).drew
  have SX : Hid (Src W3.drew b k a len cap zs) := (S2.out.1.turn (Turn.of_below (b := w2.heap.size) A2.out) (Nat.le_refl _)).drewed
  have TS : Hid (t ≠ s0) := by have := TE.out; have := L1.out; show _ ≠ _; omega
  refine wp_region_held (S := fun w' => Bk w' t #[.slice a0 n0 c0, .slice a1 n1 c1, .slice a2 n2 c2, .slice a3 n3 c3] 29) (by kernel_rfl) ?_
  change wpAnyH _ _ _ _ _ _ _ _ (World.drew _)
  generalize W3.drew = u0 at *
  refine wpAnyH_take (i := 0) (v := (.agg #[.slice a0 n0 c0, .slice a1 n1 c1, .slice a2 n2 c2, .slice a3 n3 c3])) rfl (by kernel_rfl) (by kernel_rfl) (by kernel_rfl) (fun _ _ _ h => h) (Or.inl ⟨by rfl, fun w' hs => by have y0 := hs.cell (i := 0) rfl; have y1 := hs.cell (i := 1) rfl; have y2 := hs.cell (i := 2) rfl; have y3 := hs.cell (i := 3) rfl; go_simp⟩) TB.out ?_
  change wpAnyH _ _ _ _ _ _ _ (Act.put _ (some 10) _) _
  simp only [Act.put, List.setIfInBounds_toArray, List.set_cons_zero, List.set_cons_succ]
  refine wpAnyH_take (i := 1) (v := (.pointer (some ⟨b, 0, none⟩))) rfl (by kernel_rfl) (by kernel_rfl) (by kernel_rfl) (fun _ _ _ h => h) (Or.inl ⟨by rfl, fun w' hs => by go_simp⟩) TB.out ?_
  change wpAnyH _ _ _ _ _ _ _ (Act.put _ (some 11) _) _
  simp only [Act.put, List.setIfInBounds_toArray, List.set_cons_zero, List.set_cons_succ]
  refine wpAnyH_ready (rs := [2]) (by kernel_rfl) (by simp) ?_
  refine AllReadyH.cons rfl (fun K hK => ?_) AllReadyH.nil
  rw [if_pos (by rfl)]
  go_simp
  have bq : Below u0.heap.size u0 (u0.alloc (.cells #[.int .i64 0, .int .i64 1, .int .i64 2, .int .i64 0, .int .i64 1, .int .i64 3, .int .i64 (-1)] 2)) := al (Below.refl _ _) _
  have LD : Hid (∀ i, i < 7 → ∃ v : Int, (u0.alloc (.cells #[.int .i64 0, .int .i64 1, .int .i64 2, .int .i64 0, .int .i64 1, .int .i64 3, .int .i64 (-1)] 2)).cell? ⟨u0.heap.size, i, none⟩ = some (.int .i64 v) ∧ True) := laid_at u0 [0, 1, 2, 0, 1, 3, (-1)]
  have LL : Hid (u0.heap.size < (u0.alloc (.cells #[.int .i64 0, .int .i64 1, .int .i64 2, .int .i64 0, .int .i64 1, .int .i64 3, .int .i64 (-1)] 2)).heap.size ∧ u0.heap.size ≠ b) := ⟨by simp, by have := SX.out.here; omega⟩
  replace TB : Hid (Bk (u0.alloc (.cells #[.int .i64 0, .int .i64 1, .int .i64 2, .int .i64 0, .int .i64 1, .int .i64 3, .int .i64 (-1)] 2)) t #[.slice a0 n0 c0, .slice a1 n1 c1, .slice a2 n2 c2, .slice a3 n3 c3] 29) := TB.out.keep bq
  replace RB : Hid (Bk (u0.alloc (.cells #[.int .i64 0, .int .i64 1, .int .i64 2, .int .i64 0, .int .i64 1, .int .i64 3, .int .i64 (-1)] 2)) s0 #[.slice none 0 0, .slice none 0 0, .slice none 0 0, .slice none 0 0] 29) := RB.out.keep bq
  replace DVX : Hid (Dv (u0.alloc (.cells #[.int .i64 0, .int .i64 1, .int .i64 2, .int .i64 0, .int .i64 1, .int .i64 3, .int .i64 (-1)] 2)) w1.heap.size (.slice a0 n0 c0) (.slice a1 n1 c1) (.slice a2 n2 c2) (.slice a3 n3 c3) P) := DVX.out.keep bq
  replace BX : Hid (Below w.heap.size w (u0.alloc (.cells #[.int .i64 0, .int .i64 1, .int .i64 2, .int .i64 0, .int .i64 1, .int .i64 3, .int .i64 (-1)] 2))) := on BX.out bq
  replace SX : Hid (Src (u0.alloc (.cells #[.int .i64 0, .int .i64 1, .int .i64 2, .int .i64 0, .int .i64 1, .int .i64 3, .int .i64 (-1)] 2)) b _ a len cap zs) := SX.out.alloc _
  generalize (u0.alloc (.cells #[.int .i64 0, .int .i64 1, .int .i64 2, .int .i64 0, .int .i64 1, .int .i64 3, .int .i64 (-1)] 2)) = ul at *
  generalize u0.heap.size = gl at *
  clear bq
  refine hK.out _ _ TB.out (fun _ => ?_)
  clear hK K
  refine wpAnyH_ready (rs := [3]) (by kernel_rfl) (by simp) ?_
  refine AllReadyH.cons rfl (fun K hK => ?_) AllReadyH.nil
  rw [if_pos (by rfl)]
  go_simp
  refine (pick_any SX.out (by have := S2.out.2; omega) (fun _ => True) gl 7 (by omega) (by omega) LL.out.1 LL.out.2 LD.out).mono ?_
  rintro e u1 ⟨cl, rfl, -, tn, sn⟩
  replace TB : Hid (Bk u1 t #[.slice a0 n0 c0, .slice a1 n1 c1, .slice a2 n2 c2, .slice a3 n3 c3] 29) := TB.out.turn tn (by have := TE.out; have := L1.out; omega)
  replace RB : Hid (Bk u1 s0 #[.slice none 0 0, .slice none 0 0, .slice none 0 0, .slice none 0 0] 29) := RB.out.turn tn (by have := L1.out; omega)
  replace DVX : Hid (Dv u1 w1.heap.size (.slice a0 n0 c0) (.slice a1 n1 c1) (.slice a2 n2 c2) (.slice a3 n3 c3) P) := DVX.out.turn tn L1.out.2.1
  replace BX : Hid (Below w.heap.size w u1) := BX.out.trans (tn.below (by have := SE.out; have := L1.out; omega) BX.out.size)
  replace SX : Hid (Src u1 b _ a len cap zs) := sn
  clear tn sn
  refine hK.out _ _ TB.out (fun _ => ?_)
  clear hK K
  refine wpAnyH_ready (rs := [4]) (by kernel_rfl) (by simp) ?_
  refine AllReadyH.cons rfl (fun K hK => ?_) AllReadyH.nil
  rw [if_pos (by rfl)]
  have p0 := RB.out.cell (i := 0) rfl
  have f0 := RB.out.free 0
  have p1 := RB.out.cell (i := 1) rfl
  have f1 := RB.out.free 1
  have p2 := RB.out.cell (i := 2) rfl
  have f2 := RB.out.free 2
  have p3 := RB.out.cell (i := 3) rfl
  have f3 := RB.out.free 3
  have lt := RB.out.lt
  go_simp
  clear lt p0 f0 p1 f1 p2 f2 p3 f3
  have R9 : Hid (Bk ((((u1.setCell ⟨s0, 0, none⟩ (.slice a0 n0 c0)).setCell ⟨s0, 1, none⟩ (.slice a1 n1 c1)).setCell ⟨s0, 2, none⟩ (.slice a2 n2 c2)).setCell ⟨s0, 3, none⟩ (.slice a3 n3 c3)) s0 #[.slice a0 n0 c0, .slice a1 n1 c1, .slice a2 n2 c2, .slice a3 n3 c3] 29) := fourR RB.out _ _ _ _
  have D9 : Hid (Dv ((((u1.setCell ⟨s0, 0, none⟩ (.slice a0 n0 c0)).setCell ⟨s0, 1, none⟩ (.slice a1 n1 c1)).setCell ⟨s0, 2, none⟩ (.slice a2 n2 c2)).setCell ⟨s0, 3, none⟩ (.slice a3 n3 c3)) w.heap.size (.slice a0 n0 c0) (.slice a1 n1 c1) (.slice a2 n2 c2) (.slice a3 n3 c3) P) := by
    have b0 := RB.out
    have b1 : Bk (u1.setCell ⟨s0, 0, none⟩ (.slice a0 n0 c0)) s0 #[.slice a0 n0 c0, .slice none 0 0, .slice none 0 0, .slice none 0 0] 29 := b0.set 0 _
    have b2 : Bk ((u1.setCell ⟨s0, 0, none⟩ (.slice a0 n0 c0)).setCell ⟨s0, 1, none⟩ (.slice a1 n1 c1)) s0 #[.slice a0 n0 c0, .slice a1 n1 c1, .slice none 0 0, .slice none 0 0] 29 := b1.set 1 _
    have b3 : Bk (((u1.setCell ⟨s0, 0, none⟩ (.slice a0 n0 c0)).setCell ⟨s0, 1, none⟩ (.slice a1 n1 c1)).setCell ⟨s0, 2, none⟩ (.slice a2 n2 c2)) s0 #[.slice a0 n0 c0, .slice a1 n1 c1, .slice a2 n2 c2, .slice none 0 0] 29 := b2.set 2 _
    exact ((((DVX.out.mono (base' := w.heap.size) (by have := SE.out; have := L1.out; omega)).put b0 _).put b1 _).put b2 _).put b3 _
  have B9 : Hid (Below w.heap.size w ((((u1.setCell ⟨s0, 0, none⟩ (.slice a0 n0 c0)).setCell ⟨s0, 1, none⟩ (.slice a1 n1 c1)).setCell ⟨s0, 2, none⟩ (.slice a2 n2 c2)).setCell ⟨s0, 3, none⟩ (.slice a3 n3 c3))) := ((((BX.out).setCell (by show w.heap.size ≤ s0; exact S0.out) _).setCell (by show w.heap.size ≤ s0; exact S0.out) _).setCell (by show w.heap.size ≤ s0; exact S0.out) _).setCell (by show w.heap.size ≤ s0; exact S0.out) _
  have T9 : Hid (Bk ((((u1.setCell ⟨s0, 0, none⟩ (.slice a0 n0 c0)).setCell ⟨s0, 1, none⟩ (.slice a1 n1 c1)).setCell ⟨s0, 2, none⟩ (.slice a2 n2 c2)).setCell ⟨s0, 3, none⟩ (.slice a3 n3 c3)) t #[.slice a0 n0 c0, .slice a1 n1 c1, .slice a2 n2 c2, .slice a3 n3 c3] 29) := (((TB.out.put ⟨s0, 0, none⟩ _ TS.out).put ⟨s0, 1, none⟩ _ TS.out).put ⟨s0, 2, none⟩ _ TS.out).put ⟨s0, 3, none⟩ _ TS.out
  generalize ((((u1.setCell ⟨s0, 0, none⟩ (.slice a0 n0 c0)).setCell ⟨s0, 1, none⟩ (.slice a1 n1 c1)).setCell ⟨s0, 2, none⟩ (.slice a2 n2 c2)).setCell ⟨s0, 3, none⟩ (.slice a3 n3 c3)) = w9 at *
  refine hK.out _ _ T9.out (fun _ => ?_)
  clear hK K
  refine wpAnyH_take (i := 5) (v := (.int .i64 cl)) rfl (by kernel_rfl) (by kernel_rfl) (by kernel_rfl) (fun _ _ _ h => h) (Or.inl ⟨by rfl, fun w' hs => by go_simp⟩) T9.out ?_
  change wpAnyH _ _ _ _ _ _ _ (Act.put _ (some 3) _) _
  simp only [Act.put, List.setIfInBounds_toArray, List.set_cons_zero, List.set_cons_succ]
  refine wpAnyH_done (by kernel_rfl) ?_ _
  have z0 := R9.out.cell (i := 0) rfl
  have z1 := R9.out.cell (i := 1) rfl
  have z2 := R9.out.cell (i := 2) rfl
  have z3 := R9.out.cell (i := 3) rfl
  go_wp2_with fail
  exact bodyPost_ret (v := .tuple #[.agg #[.slice a0 n0 c0, .slice a1 n1 c1, .slice a2 n2 c2, .slice a3 n3 c3], .int .i64 cl]) (by simp [results, Tryz.results13, go_sem, z0, z1, z2, z3]) rfl ⟨_, _, _, _, P, cl, rfl, D9.out, B9.out⟩
set_option maxRecDepth 20000 in
set_option maxHeartbeats 8000000 in
theorem drawReachTo {w : World} {a : Option Addr} {len cap : Nat} {zs : List Int} (hr : IsRow .u8 w a len cap zs) :
    Calls Tryz.prog 5 #[.slice a len cap] w fun e w' => ∃ v0 v1 v2 v3 P cl, e = .returned (.tuple #[.agg #[v0, v1, v2, v3], .int .i64 cl]) ∧ Dv w' w.heap.size v0 v1 v2 v3 P ∧ Below w.heap.size w w' := by
  have HR : Hid (IsRow .u8 w a len cap zs) := hr
  obtain ⟨s0, hs0⟩ : ∃ s, w.heap.size = s := ⟨_, rfl⟩
  have S0 : Hid (w.heap.size ≤ s0) := by show _ ≤ _; omega
  have SE : Hid (w.heap.size = s0) := hs0
  clear hr
  go_enter Tryz.func5, Tryz.ntmps5
  go_wp2_with fail
  have A0 : Hid (Below w.heap.size w (w.alloc (.cells #[.slice none 0 0, .slice none 0 0, .slice none 0 0, .slice none 0 0] 29))) := al (Below.refl _ _) _
  have R0 : Hid (Bk (w.alloc (.cells #[.slice none 0 0, .slice none 0 0, .slice none 0 0, .slice none 0 0] 29)) s0 #[.slice none 0 0, .slice none 0 0, .slice none 0 0, .slice none 0 0] 29) := by show Bk _ _ _ _; rw [← hs0]; exact Bk.new _ _ _
  have Z0 : Hid (s0 + 1 = (w.alloc (.cells #[.slice none 0 0, .slice none 0 0, .slice none 0 0, .slice none 0 0] 29)).heap.size) := by show _ = _; simp; omega
  try rw [hs0]
  generalize w.alloc (.cells #[.slice none 0 0, .slice none 0 0, .slice none 0 0, .slice none 0 0] 29) = W at *
  clear hs0
  refine (drawWith (HR.out.below A0.out)).mono ?_
  rintro e w2 ⟨_, _, _, _, P, cl, rfl, dv, b2⟩
  obtain ⟨a0, c0, a1, c1, a2, c2, a3, c3, e0, e1, e2, e3⟩ := dv.shape
  subst e0 e1 e2 e3
  obtain ⟨n0, hn0⟩ : ∃ n, P.own.length = n := ⟨_, rfl⟩
  obtain ⟨n1, hn1⟩ : ∃ n, P.lanes.length = n := ⟨_, rfl⟩
  obtain ⟨n2, hn2⟩ : ∃ n, P.bells.length = n := ⟨_, rfl⟩
  obtain ⟨n3, hn3⟩ : ∃ n, P.plan.length = n := ⟨_, rfl⟩
  rw [hn0, hn1, hn2, hn3] at dv ⊢
  clear hn0 hn1 hn2 hn3
  have DV : Hid (Dv w2 W.heap.size (.slice a0 n0 c0) (.slice a1 n1 c1) (.slice a2 n2 c2) (.slice a3 n3 c3) P) := dv
  have BX : Hid (Below w.heap.size w w2) := on A0.out b2
  have RB : Hid (Bk w2 s0 #[.slice none 0 0, .slice none 0 0, .slice none 0 0, .slice none 0 0] 29) := R0.out.keep b2
  clear dv b2
  have p0 := RB.out.cell (i := 0) rfl
  have f0 := RB.out.free 0
  have p1 := RB.out.cell (i := 1) rfl
  have f1 := RB.out.free 1
  have p2 := RB.out.cell (i := 2) rfl
  have f2 := RB.out.free 2
  have p3 := RB.out.cell (i := 3) rfl
  have f3 := RB.out.free 3
  have lt := RB.out.lt
  go_upto_region 2 with fail
  clear lt p0 f0 p1 f1 p2 f2 p3 f3
  have R9 : Hid (Bk ((((w2.setCell ⟨s0, 0, none⟩ (.slice a0 n0 c0)).setCell ⟨s0, 1, none⟩ (.slice a1 n1 c1)).setCell ⟨s0, 2, none⟩ (.slice a2 n2 c2)).setCell ⟨s0, 3, none⟩ (.slice a3 n3 c3)) s0 #[.slice a0 n0 c0, .slice a1 n1 c1, .slice a2 n2 c2, .slice a3 n3 c3] 29) := fourR RB.out _ _ _ _
  have D9 : Hid (Dv ((((w2.setCell ⟨s0, 0, none⟩ (.slice a0 n0 c0)).setCell ⟨s0, 1, none⟩ (.slice a1 n1 c1)).setCell ⟨s0, 2, none⟩ (.slice a2 n2 c2)).setCell ⟨s0, 3, none⟩ (.slice a3 n3 c3)) w.heap.size (.slice a0 n0 c0) (.slice a1 n1 c1) (.slice a2 n2 c2) (.slice a3 n3 c3) P) := by
    have b0 := RB.out
    have b1 : Bk (w2.setCell ⟨s0, 0, none⟩ (.slice a0 n0 c0)) s0 #[.slice a0 n0 c0, .slice none 0 0, .slice none 0 0, .slice none 0 0] 29 := b0.set 0 _
    have b2 : Bk ((w2.setCell ⟨s0, 0, none⟩ (.slice a0 n0 c0)).setCell ⟨s0, 1, none⟩ (.slice a1 n1 c1)) s0 #[.slice a0 n0 c0, .slice a1 n1 c1, .slice none 0 0, .slice none 0 0] 29 := b1.set 1 _
    have b3 : Bk (((w2.setCell ⟨s0, 0, none⟩ (.slice a0 n0 c0)).setCell ⟨s0, 1, none⟩ (.slice a1 n1 c1)).setCell ⟨s0, 2, none⟩ (.slice a2 n2 c2)) s0 #[.slice a0 n0 c0, .slice a1 n1 c1, .slice a2 n2 c2, .slice none 0 0] 29 := b2.set 2 _
    exact ((((DV.out.mono (base' := w.heap.size) (by have := SE.out; have := Z0.out; omega)).put b0 _).put b1 _).put b2 _).put b3 _
  have B9 : Hid (Below w.heap.size w ((((w2.setCell ⟨s0, 0, none⟩ (.slice a0 n0 c0)).setCell ⟨s0, 1, none⟩ (.slice a1 n1 c1)).setCell ⟨s0, 2, none⟩ (.slice a2 n2 c2)).setCell ⟨s0, 3, none⟩ (.slice a3 n3 c3))) := ((((BX.out).setCell (by show w.heap.size ≤ s0; exact S0.out) _).setCell (by show w.heap.size ≤ s0; exact S0.out) _).setCell (by show w.heap.size ≤ s0; exact S0.out) _).setCell (by show w.heap.size ≤ s0; exact S0.out) _
  generalize ((((w2.setCell ⟨s0, 0, none⟩ (.slice a0 n0 c0)).setCell ⟨s0, 1, none⟩ (.slice a1 n1 c1)).setCell ⟨s0, 2, none⟩ (.slice a2 n2 c2)).setCell ⟨s0, 3, none⟩ (.slice a3 n3 c3)) = w9 at *
  have z0 := R9.out.cell (i := 0) rfl
  have z1 := R9.out.cell (i := 1) rfl
  have z2 := R9.out.cell (i := 2) rfl
  have z3 := R9.out.cell (i := 3) rfl
  go_wp2_with fail
  exact bodyPost_ret (v := .tuple #[.agg #[.slice a0 n0 c0, .slice a1 n1 c1, .slice a2 n2 c2, .slice a3 n3 c3], .int .i64 cl]) (by simp [results, Tryz.results5, go_sem, z0, z1, z2, z3]) rfl ⟨_, _, _, _, P, cl, rfl, D9.out, B9.out⟩
end Go.Proofs.YtddeaibkdpomlaaGreatDoor
