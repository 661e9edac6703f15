/- Texts of this seat, joined. -/
import Derived.Deep.RegionHeld3
import Derived.Test.YtkaehdlgimodjaaGreatDoorQ19
import Derived.Test.YtkaehdlgimodjaaGreatDoorQ27
import Derived.Test.YtkaehdlgimodjaaGreatDoorQ43
import Derived.Test.YtkaehdlgimodjaaGreatDoorQ45
import Derived.Test.YtkaehdlgimodjaaGreatDoorQ46
namespace Go.Proofs.YtkaehdlgimodjaaGreatDoor
open Go.RowKit
set_option linter.unusedVariables false

theorem neq_turn (a b c d e : Int) (w : World) (h : ¬ (a = d ∧ b = e)) : (binOp .neq 101 (.agg #[.int .i64 a, .int .i64 b, .int .i64 c]) (.agg #[.int .i64 d, .int .i64 e, .int .i64 c])).run Tryz.prog w = .ok (.bool true) w := by
  go_simp
  by_cases h1 : a = d
  · by_cases h2 : b = e
    · exact absurd ⟨h1, h2⟩ h
    · simp [h1, h2]
  · simp [h1]
theorem i_turnOf (a0 a1 a2 a3 : Option Addr) (n0 c0 n1 c1 n2 c2 n3 c3 : Nat) (am : Option Addr) (lm cm : Nat) (ah : Option Addr) (lh ch : Nat) (X : Hst) (w : World) :
    Calls Tryz.prog 48 #[.agg #[.slice a0 n0 c0, .slice a1 n1 c1, .slice a2 n2 c2, .slice a3 n3 c3, .slice am lm cm, .slice ah lh ch, .int .i64 X.slot, .int .i64 X.left, .int .i64 X.clock]] w fun e w' => e = .returned (.agg #[.int .i64 X.slot, .int .i64 X.left, .int .i64 X.clock]) ∧ Below w.heap.size w w' := by
  go_enter Tryz.func48, Tryz.ntmps48
  go_wp2_with fail
  exact bodyPost_ret (v := .agg #[.int .i64 X.slot, .int .i64 X.left, .int .i64 X.clock]) (by simp [results, Tryz.results48, go_sem]) rfl ⟨rfl, al (al (Below.refl _ _) _) _⟩
set_option maxRecDepth 20000 in
set_option maxHeartbeats 8000000 in
theorem i_hostFault (a0 a1 a2 a3 : Option Addr) (n0 c0 n1 c1 n2 c2 n3 c3 : Nat) (m h : Value) (X : Hst) (b : Nat) (w : World) (d : Oj w b a0 n0 c0 a1 n1 c1 a2 n2 c2 a3 n3 c3 m h X) (hg : w.cell? ⟨0, 0, none⟩ = some (.iface 173 (.agg #[.pointer (some ⟨4, 68, none⟩)]))) :
    Calls Tryz.prog 19 #[.agg #[.slice a0 n0 c0, .slice a1 n1 c1, .slice a2 n2 c2, .slice a3 n3 c3, m, h, .int .i64 X.slot, .int .i64 X.left, .int .i64 X.clock]] w fun e w' => e = .returned (.int .i64 (hoV X)) ∧ Below w.heap.size w w' := by
  obtain ⟨am, cm, rfl, _⟩ := d.mem.shape
  obtain ⟨ah, ch, rfl, _, lh2, gh⟩ := d.harts.shape
  obtain ⟨V, hV⟩ : ∃ V, hoV X = V := ⟨_, rfl⟩
  rw [hV]
  have HV : Hid (hoV X = V) := hV
  clear hV
  obtain ⟨lm, hlm⟩ : ∃ n, X.mem.length = n := ⟨_, rfl⟩
  obtain ⟨lh, hlh⟩ : ∃ n, X.harts.length = n := ⟨_, rfl⟩
  rw [hlm, hlh] at d
  rw [hlh] at gh
  rw [hlm, hlh]
  have HLH : Hid (X.harts.length = lh) := hlh
  have GH : Hid (0 < lh → ∃ g, ah = some ⟨g, 0, none⟩) := gh
  have HL0 : Hid (n0 = X.pol.own.length) := d.pol.own.len
  have HM0 : (n0 : Int) ≤ 9223372036854775807 := by have := d.pol.own.cap; unfold maxLen at this; omega
  have HMH : (lh : Int) ≤ 9223372036854775807 := by obtain ⟨_, _, _, t1, t2, _⟩ := d.harts.shape; rw [hlh] at t1; unfold maxLen at t2; omega
  clear hlm hlh gh lh2
  generalize hW : w.alloc (.cells #[.slice a0 n0 c0, .slice a1 n1 c1, .slice a2 n2 c2, .slice a3 n3 c3, .slice am lm cm, .slice ah lh ch, .int .i64 X.slot, .int .i64 X.left, .int .i64 X.clock] 43) = W
  have B0 : Hid (Below w.heap.size w W) := by show Below _ _ _; rw [← hW]; exact al (Below.refl _ _) _
  obtain ⟨s, hS⟩ : ∃ s, w.heap.size = s := ⟨_, rfl⟩
  have Q : Hid (Vb W s #[.slice a0 n0 c0, .slice a1 n1 c1, .slice a2 n2 c2, .slice a3 n3 c3, .slice am lm cm, .slice ah lh ch, .int .i64 X.slot, .int .i64 X.left, .int .i64 X.clock] 43) := by show Vb _ _ _ _; rw [← hW, ← hS]; exact Vb.new _ _ _
  have D : Hid (Oj W b a0 n0 c0 a1 n1 c1 a2 n2 c2 a3 n3 c3 (.slice am lm cm) (.slice ah lh ch) X) := d.keep B0.out
  have HG : Hid (W.cell? ⟨0, 0, none⟩ = some (.iface 173 (.agg #[.pointer (some ⟨4, 68, none⟩)]))) := cell_keep B0.out hg
  clear d hg
  have q0 := Q.out.cell 0 rfl
  have q1 := Q.out.cell 1 rfl
  have q2 := Q.out.cell 2 rfl
  have q3 := Q.out.cell 3 rfl
  go_enter Tryz.func19, Tryz.ntmps19
  go_wp2_with fail
  clear hW hS q0 q1 q2 q3
  refine (impl_policy _ _ _ _ _ _ _ _ _ _ _ _ X.pol _ D.out.pol HG.out).mono ?_
  rintro e w1 ⟨rfl, b1⟩
  have B1 : Hid (Below W.heap.size W w1) := b1
  have Q1 : Hid (Vb w1 s #[.slice a0 n0 c0, .slice a1 n1 c1, .slice a2 n2 c2, .slice a3 n3 c3, .slice am lm cm, .slice ah lh ch, .int .i64 X.slot, .int .i64 X.left, .int .i64 X.clock] 43) := Q.out.keep b1
  clear b1
  by_cases hz : pfV X.pol = 0
  case neg =>
    have E : Hid (pfV X.pol = V) := by show _ = _; rw [← HV.out, hoV, if_neg hz]
    rw [E.out] at hz ⊢
    go_wp2_with fail
    go_ret
    exact ⟨rfl, on B0.out B1.out⟩
  have PZ : Hid (pfV X.pol = 0) := hz
  rw [hz]
  clear hz
  have q4 := Q1.out.cell 4 rfl
  have q5 := Q1.out.cell 5 rfl
  have q0 := Q1.out.cell 0 rfl
  cases hw : wholeB X.mem
  case false =>
    have E : Hid (1 = V) := by show _ = _; rw [← HV.out, hoV, if_pos PZ.out, if_neg (by rw [hw]; simp)]
    go_wp2_with (go_at_call 45; refine (i_whole _ X.mem b _ (D.out.mem.keep B1.out)).mono ?_; rintro e w1 ⟨rfl, rfl⟩; rw [hw])
    go_ret
    exact ⟨ret_i E.out, on B0.out B1.out⟩
  by_cases hn : lh = n0
  case neg =>
    have E : Hid (1 = V) := by show _ = _; rw [← HV.out, hoV, if_pos PZ.out, if_neg (by rw [HLH.out, ← HL0.out]; exact fun k => hn k.2)]
    have hi : ¬ (lh : Int) = (n0 : Int) := by omega
    go_wp2_with (go_at_call 45; refine (i_whole _ X.mem b _ (D.out.mem.keep B1.out)).mono ?_; rintro e w1 ⟨rfl, rfl⟩; rw [hw])
    go_ret
    exact ⟨ret_i E.out, on B0.out B1.out⟩
  have ME : Hid (wholeB X.mem = true ∧ X.harts.length = X.pol.own.length) := ⟨hw, by rw [HLH.out, ← HL0.out]; exact hn⟩
  have hi : (lh : Int) = (n0 : Int) := by omega
  have HN0 : Hid (lh = n0) := hn
  clear hn
  go_wp2_with (go_at_call 45; refine (i_whole _ X.mem b _ (D.out.mem.keep B1.out)).mono ?_; rintro e w1 ⟨rfl, rfl⟩; rw [hw])
  clear q0 q4 q5 hi HM0
  go_loopw [30] (fun c wr => ∃ j : Nat, j ≤ lh ∧ c = .int .i64 j ∧ hartsV (X.harts.drop j) = hartsV X.harts ∧ Below W.heap.size W wr) (fun c _ => lh - (intOf c).toNat)
  case atStart => exact ⟨0, Nat.zero_le _, rfl, rfl, B1.out⟩
  case round =>
    obtain ⟨j, hj, rfl, hT, hB⟩ := hrel
    have HT : Hid (hartsV (X.harts.drop j) = hartsV X.harts) := hT
    have HB : Hid (Below W.heap.size W wr) := hB
    clear hT hB
    by_cases hlt : j < lh
    · obtain ⟨x1, e1⟩ := GH.out (by omega)
      subst e1
      obtain ⟨r, c, i, o, z1, z2, _⟩ := (D.out.harts.keep HB.out).at j (by rw [HLH.out]; exact hlt)
      have ST := harts_step X.harts j (by rw [HLH.out]; exact hlt)
      obtain ⟨H, hH⟩ : ∃ H, X.harts.getD j voidH = H := ⟨_, rfl⟩
      rw [hH] at z1 z2 ST
      have HST : Hid (_ = _) := ST
      obtain ⟨xr, lr, rfl, _⟩ := z2.r.shape
      obtain ⟨xc, lc, rfl, _⟩ := z2.c.shape
      obtain ⟨xi, li, rfl, _⟩ := z2.i.shape
      obtain ⟨xo, lo, rfl, _⟩ := z2.o.shape
      have Z2 : Hid (Hm wr b _ _ _ _ H) := z2
      generalize H.regs.length = m0 at *
      generalize H.csr.length = m1 at *
      generalize H.inn.length = mi at *
      generalize H.out.length = mo at *
      have y0 := z1.c0
      have y1 := z1.c1
      have y2 := z1.c2
      have y3 := z1.c3
      have y4 := z1.c4
      have y5 := z1.c5
      have y6 := z1.c6
      have y7 := z1.c7
      have y8 := z1.c8
      have hI : (j : Int) < (lh : Int) := by omega
      have hI0 : (j : Int) < (n0 : Int) := by have := HN0.out; omega
      have HL : Hid (j < lh) := hlt
      have xl : x1 < wr.heap.size := block_of_cell z1.c0
      clear z1 z2 hH hlt ST
      go_wp2_with fail
      clear y0 y1 y2 y3 y4 y5 y6 y7 y8 xl
      refine (i_fault _ _ _ _ H b _ (Z2.out.keep (al (Below.refl _ _) _))).mono ?_
      rintro e w2 ⟨rfl, b2⟩
      have B2 : Hid (Below W.heap.size W w2) := on HB.out (on (al (Below.refl _ _) _) b2)
      clear b2
      by_cases hf : hfV H = 0
      · have HT2 : Hid (hartsV (X.harts.drop (j + 1)) = hartsV X.harts) := by
          have t := HST.out
          rw [if_pos hf, HT.out] at t
          exact t.symm
        rw [hf]
        clear hf
        go_wp2_with fail
        go_roundw
        case rel => exact ⟨j + 1, by have := HL.out; omega, by go_num, HT2.out, B2.out⟩
        case measure => have := HL.out; simp [intOf]; omega
      · have HT2 : Hid (hfV H = V) := by
          have t := HST.out
          rw [if_neg hf, HT.out] at t
          show _ = _
          rw [← HV.out, hoV, if_pos PZ.out, if_pos ME.out, if_neg (by rw [t]; exact hf), t]
        rw [HT2.out] at hf ⊢
        go_wp2_with fail
        go_ret
        exact ⟨rfl, on B0.out B2.out⟩
    · have hJ : ¬ (j : Int) < (lh : Int) := by omega
      have hJ0 : ¬ (j : Int) < (n0 : Int) := by have := HN0.out; omega
      have HZ : Hid (hartsV X.harts = 0) := by
        show _ = _
        rw [← HT.out, List.drop_of_length_le (by rw [HLH.out]; omega)]
        rfl
      have Q2 : Hid (Vb wr s #[.slice a0 n0 c0, .slice a1 n1 c1, .slice a2 n2 c2, .slice a3 n3 c3, .slice am lm cm, .slice ah lh ch, .int .i64 X.slot, .int .i64 X.left, .int .i64 X.clock] 43) := Q.out.keep HB.out
      have q8 := Q2.out.cell 8 rfl
      clear hlt
      cases hk : ckOk X.clock
      case false =>
        have E : Hid (3 = V) := by show _ = _; rw [← HV.out, hoV, if_pos PZ.out, if_pos ME.out, if_pos HZ.out, if_neg (by rw [hk]; simp)]
        go_wp2_with (go_at_call 47; refine (i_clock _ _).mono ?_; rintro e w2 ⟨rfl, hw2⟩; rw [hw2]; clear hw2 w2; rw [hk])
        go_ret
        exact ⟨ret_i E.out, on B0.out HB.out⟩
      have CK : Hid (0 ≤ X.clock ∧ X.clock ≤ 1000000) := by show _ ∧ _; unfold ckOk at hk; simpa using hk
      have E : Hid ((if (tS X.pol X.clock).1 = X.slot ∧ (tS X.pol X.clock).2 = X.left then (0 : Int) else 1) = V) := by show _ = _; rw [← HV.out, hoV, if_pos PZ.out, if_pos ME.out, if_pos HZ.out, if_pos hk]
      go_wp2_with (go_at_call 47; refine (i_clock _ _).mono ?_; rintro e w2 ⟨rfl, hw2⟩; rw [hw2]; clear hw2 w2; rw [hk])
      clear q8 hk
      refine wp_region_held (S := fun w' => Below wr.heap.size wr w') (by kernel_rfl) ?_
      change wpAnyH _ _ _ _ _ _ _ _ (World.drew _)
      have SD : Hid (Below wr.heap.size wr wr.drew) := (Below.refl _ _).drew
      generalize wr.drew = x0 at *
      refine wpAnyH_take (i := 0) (v := .agg #[.slice a0 n0 c0, .slice a1 n1 c1, .slice a2 n2 c2, .slice a3 n3 c3, .slice am lm cm, .slice ah lh ch, .int .i64 X.slot, .int .i64 X.left, .int .i64 X.clock]) rfl (by kernel_rfl) (by kernel_rfl) (by kernel_rfl) (fun _ _ _ h => h) (Or.inl ⟨by rfl, fun w' hs => by have hq := Q2.out.keep hs; have y0 := hq.cell 0 rfl; have y1 := hq.cell 1 rfl; have y2 := hq.cell 2 rfl; have y3 := hq.cell 3 rfl; have y4 := hq.cell 4 rfl; have y5 := hq.cell 5 rfl; have y6 := hq.cell 6 rfl; have y7 := hq.cell 7 rfl; have y8 := hq.cell 8 rfl; go_simp⟩) SD.out ?_
      change wpAnyH _ _ _ _ _ _ _ (Act.put _ (some 44) _) _
      simp only [Act.put, List.setIfInBounds_toArray, List.set_cons_zero, List.set_cons_succ]
      refine wpAnyH_take (i := 2) (v := .pointer (some ⟨s, 0, none⟩)) rfl (by kernel_rfl) (by kernel_rfl) (by kernel_rfl) (fun _ _ _ h => h) (Or.inl ⟨by rfl, fun w' hs => by go_simp⟩) SD.out ?_
      change wpAnyH _ _ _ _ _ _ _ (Act.put _ (some 46) _) _
      simp only [Act.put, List.setIfInBounds_toArray, List.set_cons_zero, List.set_cons_succ]
      refine wpAnyH_take (i := 3) (v := .agg #[.slice a0 n0 c0, .slice a1 n1 c1, .slice a2 n2 c2, .slice a3 n3 c3]) rfl (by kernel_rfl) (by kernel_rfl) (by kernel_rfl) (fun _ _ _ h => h) (Or.inl ⟨by rfl, fun w' hs => by have hq := Q2.out.keep hs; have y0 := hq.cell 0 rfl; have y1 := hq.cell 1 rfl; have y2 := hq.cell 2 rfl; have y3 := hq.cell 3 rfl; go_simp⟩) SD.out ?_
      change wpAnyH _ _ _ _ _ _ _ (Act.put _ (some 47) _) _
      simp only [Act.put, List.setIfInBounds_toArray, List.set_cons_zero, List.set_cons_succ]
      refine wpAnyH_take (i := 4) (v := .pointer (some ⟨s, 8, none⟩)) rfl (by kernel_rfl) (by kernel_rfl) (by kernel_rfl) (fun _ _ _ h => h) (Or.inl ⟨by rfl, fun w' hs => by go_simp⟩) SD.out ?_
      change wpAnyH _ _ _ _ _ _ _ (Act.put _ (some 48) _) _
      simp only [Act.put, List.setIfInBounds_toArray, List.set_cons_zero, List.set_cons_succ]
      refine wpAnyH_take (i := 5) (v := .int .i64 X.clock) rfl (by kernel_rfl) (by kernel_rfl) (by kernel_rfl) (fun _ _ _ h => h) (Or.inl ⟨by rfl, fun w' hs => by have hq := Q2.out.keep hs; have y8 := hq.cell 8 rfl; go_simp⟩) SD.out ?_
      change wpAnyH _ _ _ _ _ _ _ (Act.put _ (some 49) _) _
      simp only [Act.put, List.setIfInBounds_toArray, List.set_cons_zero, List.set_cons_succ]
      refine wpAnyH_ready (rs := [1]) (by kernel_rfl) (by simp) ?_
      refine AllReadyH.cons rfl (fun K hK => ?_) AllReadyH.nil
      · skip
        rw [if_pos (by rfl)]
        go_simp
        refine (i_turnOf _ _ _ _ _ _ _ _ _ _ _ _ _ _ _ _ _ _ X _).mono ?_
        rintro e w3 ⟨rfl, b3⟩
        have S3 : Hid (Below wr.heap.size wr w3) := on SD.out b3
        clear b3
        refine hK.out _ _ S3.out (fun _ => ?_)
        clear hK K
        refine wpAnyH_ready (rs := [6]) (by kernel_rfl) (by simp) ?_
        refine AllReadyH.cons rfl (fun K hK => ?_) AllReadyH.nil
        rw [if_pos (by rfl)]
        go_simp
        refine (i_turnAt _ _ _ _ _ _ _ _ _ _ _ _ X.pol X.clock _ ((D.out.pol.stay HB.out).stay S3.out) (cell_keep S3.out (cell_keep HB.out HG.out)) PZ.out CK.out.1 CK.out.2).mono ?_
        rintro e w4 ⟨rfl, b4⟩
        have S4 : Hid (Below wr.heap.size wr w4) := on S3.out b4
        clear b4
        refine hK.out _ _ S4.out (fun _ => ?_)
        clear hK K
        obtain ⟨t1, ht1⟩ : ∃ t, (tS X.pol X.clock).1 = t := ⟨_, rfl⟩
        obtain ⟨t2, ht2⟩ : ∃ t, (tS X.pol X.clock).2 = t := ⟨_, rfl⟩
        rw [ht1, ht2] at E ⊢
        clear ht1 ht2
        by_cases ht : t1 = X.slot ∧ t2 = X.left
        · have E0 : Hid (0 = V) := by
            have t := E.out
            rw [if_pos ht] at t
            exact t
          obtain ⟨h1, h2⟩ := ht
          rw [h1, h2]
          refine wpAnyH_take (i := 7) (v := .bool false) rfl (by kernel_rfl) (by kernel_rfl) (by kernel_rfl) (fun _ _ _ h => h) (Or.inl ⟨by rfl, fun w' hs => by go_simp⟩) S4.out ?_
          change wpAnyH _ _ _ _ _ _ _ (Act.put _ (some 51) _) _
          simp only [Act.put, List.setIfInBounds_toArray, List.set_cons_zero, List.set_cons_succ]
          refine wpAnyH_done (by kernel_rfl) ?_ _
          go_wp2_with fail
          go_ret
          exact ⟨ret_i E0.out, on B0.out (on HB.out S4.out)⟩
        · have E0 : Hid (1 = V) := by
            have t := E.out
            rw [if_neg ht] at t
            exact t
          have hne := fun w => neq_turn X.slot X.left X.clock t1 t2 w (fun k => ht ⟨k.1.symm, k.2.symm⟩)
          refine wpAnyH_take (i := 7) (v := .bool true) rfl (by kernel_rfl) (by kernel_rfl) (by kernel_rfl) (fun _ _ _ h => h) (Or.inl ⟨by rfl, fun w' hs => by simp [go_sem, hne]⟩) S4.out ?_
          change wpAnyH _ _ _ _ _ _ _ (Act.put _ (some 51) _) _
          simp only [Act.put, List.setIfInBounds_toArray, List.set_cons_zero, List.set_cons_succ]
          refine wpAnyH_done (by kernel_rfl) ?_ _
          go_wp2_with fail
          go_ret
          exact ⟨ret_i E0.out, on B0.out (on HB.out S4.out)⟩
end Go.Proofs.YtkaehdlgimodjaaGreatDoor
namespace Go.Proofs.YtkaehdlgimodjaaGreatDoor
open Go.RowKit
set_option linter.unusedVariables false

def wdClock : List UInt8 := [99, 108, 111, 99, 107]
def wdGuest : List UInt8 := [103, 117, 101, 115, 116]
def wdMem : List UInt8 := [109, 101, 109, 111, 114, 121]
def htC (X : Hst) : List Int := [X.clock, X.slot, X.left]
def htN (H : Ht) (j : Nat) : List Int := [(j : Int), H.pc, H.done, (H.inn.length : Int), (H.out.length : Int)]
def htG (X : Hst) (j : Nat) : List Int := htN (X.harts.getD j voidH) j
/-- The lines ahead of guest j. -/
def ht0 (X : Hst) (j : Nat) : List UInt8 := nlW wdClock (htC X) ++ (List.range j).flatMap fun i => nlW wdGuest (htG X i)
def htW (X : Hst) : List UInt8 := ht0 X X.harts.length ++ nlW wdMem [dgX X.mem]
def htR (X : Hst) : Int × List UInt8 := if hoV X = 0 then (0, htW X) else (hoV X, [])
theorem ht0_zero (X : Hst) : ht0 X 0 = nlW wdClock (htC X) := by simp [ht0]
theorem ht0_next (X : Hst) (j : Nat) : ht0 X (j + 1) = ht0 X j ++ nlW wdGuest (htG X j) := by
  simp [ht0, List.range_succ, List.append_assoc]
/-- What a host without a fault says fits into lines. -/
structure Htk (X : Hst) : Prop where
  cw : (htC X).all isW = true
  n3 : X.harts.length ≤ 3
  ok : ∀ j, j < X.harts.length → Hok (X.harts.getD j voidH)
  gw : ∀ j, j < X.harts.length → (htG X j).all isW = true
  mw : ([dgX X.mem] : List Int).all isW = true
theorem harts_each : ∀ (hs : List Ht), hartsV hs = 0 → ∀ j, j < hs.length → hfV (hs.getD j voidH) = 0
  | [], _, j, hj => absurd hj (Nat.not_lt_zero _)
  | h :: t, hv, j, hj => by
    rw [hartsV] at hv
    split at hv
    · rename_i h0
      match j, hj with
      | 0, _ => exact h0
      | j + 1, hj => exact harts_each t hv j (by simpa using hj)
    · rename_i h0
      exact absurd hv h0
theorem htk_of {X : Hst} (h : hoV X = 0) : Htk X := by
  obtain ⟨hp, c0, c1⟩ := ho_ok h
  have hF := fm_of hp
  have hts := tS_in X.pol hp X.clock
  unfold hoV at h
  rw [if_pos hp] at h
  split at h
  case isFalse => cases h
  rename_i hm
  split at h
  case isFalse h3 => exact absurd h h3
  rename_i hh
  split at h
  case isFalse => cases h
  split at h
  case isFalse => cases h
  rename_i hs
  rw [hs.1, hs.2] at hts
  have s8 := hF.s8
  have hsl : isW X.slot = true := isW_of (by omega) (by omega)
  have hpl : (X.pol.plan.getD X.slot.toNat (0, 0)).2 ≤ 50 := (pf_each X.pol hp _ (getD_mem X.pol.plan (0, 0) X.slot.toNat (by omega))).2
  have hle : isW X.left = true := isW_of (by omega) (by omega)
  have hcl : isW X.clock = true := isW_of (by omega) (by omega)
  have o3 := hF.o3
  have hok : ∀ j, j < X.harts.length → Hok (X.harts.getD j voidH) := fun j hj => hok_of (harts_each X.harts hh j hj)
  refine ⟨by simp [htC, hsl, hle, hcl], by omega, hok, fun j hj => ?_, ?_⟩
  · have k := hok j hj
    have d0 := k.d0
    have d9 := k.d9
    have i40 := k.i40
    have o40 := k.o40
    have e1 : isW (j : Int) = true := isW_of (by omega) (by omega)
    have e2 : isW (X.harts.getD j voidH).done = true := isW_of (by omega) (by omega)
    have e3 : isW ((X.harts.getD j voidH).inn.length : Int) = true := isW_of (by omega) (by omega)
    have e4 : isW ((X.harts.getD j voidH).out.length : Int) = true := isW_of (by omega) (by omega)
    simp only [htG, htN, List.all_cons, List.all_nil, e1, k.pw, e2, e3, e4, Bool.and_true]
  · have e : isW (dgX X.mem) = true := by
      unfold dgX
      split
      · exact isW_of (dg_in X.mem).1 (by have := (dg_in X.mem).2; omega)
      · rfl
    simp [e]
theorem ht0_len {X : Hst} (h : Htk X) : ∀ j, j ≤ X.harts.length → (ht0 X j).length ≤ 500 + 500 * j
  | 0, _ => by rw [ht0_zero]; exact nl_len h.cw (by simp [htC]) (by decide)
  | j + 1, hj => by
    have ih := ht0_len h j (by omega)
    have := nl_len (wd := wdGuest) (h.gw j (by omega)) (show (htG X j).length ≤ 40 by simp [htG, htN]) (by decide)
    rw [ht0_next, List.length_append]
    omega
theorem two3H {v : World} {q : Nat} {t : TypeId} {z0 z1 : Value} (h : Vb v q #[z0, z1] t) (u0 u1 : Value) :
    Vb ((v.setCell ⟨q, 0, none⟩ u0).setCell ⟨q, 1, none⟩ u1) q #[u0, u1] t := by
  have h0 : Vb (v.setCell ⟨q, 0, none⟩ u0) q #[u0, z1] t := h.set 0 u0
  exact h0.set 1 u1
theorem eq_textH (a : Int) (s : ByteArray) (w : World) :
    Calls Tryz.prog 8 #[.agg #[.int .i64 a, .string s], .agg #[.int .i64 a, .string s]] w fun e w' => e = .returned (.bool true) ∧ Below w.heap.size w w' := by
  go_enter Tryz.func8, Tryz.ntmps8
  go_wp2_with fail
  go_ret
  exact ⟨rfl, al (al (Below.refl _ _) _) _⟩
theorem rn1H (w : World) (f : Int) {ty : TypeId} {k : Nat} (h : k = w.heap.size) : Rn (w.alloc (.cells #[.int .i64 f] ty)) (some ⟨k, 0, none⟩) 1 1 [f] := by
  subst h
  refine .inr ⟨_, rfl, by decide, by decide, rfl, fun i hi => ?_⟩
  rw [Addr.add_lit, Nat.zero_add]
  match i, hi with
  | 0, _ => exact cell_new rfl
theorem rn3H (w : World) (f d g : Int) {ty : TypeId} {k : Nat} (h : k = w.heap.size) : Rn (w.alloc (.cells #[.int .i64 f, .int .i64 d, .int .i64 g] ty)) (some ⟨k, 0, none⟩) 3 3 [f, d, g] := by
  subst h
  refine .inr ⟨_, rfl, by decide, by decide, rfl, fun i hi => ?_⟩
  rw [Addr.add_lit, Nat.zero_add]
  match i, hi with
  | 0, _ => exact cell_new rfl
  | 1, _ => exact cell_new rfl
  | 2, _ => exact cell_new rfl
theorem rn5H (w : World) (f d g p t : Int) {ty : TypeId} {k : Nat} (h : k = w.heap.size) : Rn (w.alloc (.cells #[.int .i64 f, .int .i64 d, .int .i64 g, .int .i64 p, .int .i64 t] ty)) (some ⟨k, 0, none⟩) 5 5 [f, d, g, p, t] := by
  subst h
  refine .inr ⟨_, rfl, by decide, by decide, rfl, fun i hi => ?_⟩
  rw [Addr.add_lit, Nat.zero_add]
  match i, hi with
  | 0, _ => exact cell_new rfl
  | 1, _ => exact cell_new rfl
  | 2, _ => exact cell_new rfl
  | 3, _ => exact cell_new rfl
  | 4, _ => exact cell_new rfl
end Go.Proofs.YtkaehdlgimodjaaGreatDoor
