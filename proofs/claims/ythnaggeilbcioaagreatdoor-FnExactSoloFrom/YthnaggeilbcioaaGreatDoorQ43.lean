/- Texts of this seat, joined. -/
import Derived.Deep.RegionHeld3
import Derived.Test.YthnaggeilbcioaaGreatDoorQ06
import Derived.Test.YthnaggeilbcioaaGreatDoorQ25
import Derived.Test.YthnaggeilbcioaaGreatDoorQ30
import Derived.Test.YthnaggeilbcioaaGreatDoorQ39
import Derived.Test.YthnaggeilbcioaaGreatDoorQ42
namespace Go.Proofs.YthnaggeilbcioaaGreatDoor
open Go.RowKit
set_option linter.unusedVariables false

def hartsV : List Ht → Int
  | [] => 0
  | h :: t => if hfV h = 0 then hartsV t else hfV h
theorem harts_step (hs : List Ht) (j : Nat) (h : j < hs.length) : hartsV (hs.drop j) = if hfV (hs.getD j voidH) = 0 then hartsV (hs.drop (j + 1)) else hfV (hs.getD j voidH) := by
  rw [drop_cons_getD hs voidH j h, hartsV]
def hoV (X : Hst) : Int :=
  if pfV X.pol = 0 then
    if wholeB X.mem = true ∧ X.harts.length = X.pol.own.length then
      if hartsV X.harts = 0 then
        if ckOk X.clock = true then (if (tS X.pol X.clock).1 = X.slot ∧ (tS X.pol X.clock).2 = X.left then 0 else 1) else 3
      else hartsV X.harts
    else 1
  else pfV X.pol
theorem ho_ok {X : Hst} (h : hoV X = 0) : pfV X.pol = 0 ∧ 0 ≤ X.clock ∧ X.clock ≤ 1000000 := by
  unfold hoV at h
  split at h
  · rename_i h1
    split at h
    · split at h
      · split at h
        · rename_i h4
          unfold ckOk at h4
          simp at h4
          exact ⟨h1, h4⟩
        · cases h
      · rename_i h3
        exact absurd h h3
    · cases h
  · rename_i h1
    exact absurd h h1
/-- A host that is read: the policy, the memory, the machines. -/
structure Oj (w : World) (base : Nat) (a0 : Option Addr) (n0 c0 : Nat) (a1 : Option Addr) (n1 c1 : Nat) (a2 : Option Addr) (n2 c2 : Nat) (a3 : Option Addr) (n3 c3 : Nat) (m h : Value) (X : Hst) : Prop where
  pol : Pl w a0 n0 c0 a1 n1 c1 a2 n2 c2 a3 n3 c3 X.pol
  mem : Nums w base m X.mem
  harts : Hl w base h X.harts
theorem Oj.keep {w w' : World} {base : Nat} {a0 : Option Addr} {n0 c0 : Nat} {a1 : Option Addr} {n1 c1 : Nat} {a2 : Option Addr} {n2 c2 : Nat} {a3 : Option Addr} {n3 c3 : Nat} {m h : Value} {X : Hst} (d : Oj w base a0 n0 c0 a1 n1 c1 a2 n2 c2 a3 n3 c3 m h X) (b : Below w.heap.size w w') : Oj w' base a0 n0 c0 a1 n1 c1 a2 n2 c2 a3 n3 c3 m h X :=
  ⟨d.pol.stay b, d.mem.keep b, d.harts.keep b⟩
end Go.Proofs.YthnaggeilbcioaaGreatDoor
namespace Go.Proofs.YthnaggeilbcioaaGreatDoor
open Go.RowKit
set_option linter.unusedVariables false

theorem neq_turn (a b c d e : Int) (w : World) (h : ¬ (a = d ∧ b = e)) : (binOp .neq 126 (.agg #[.int .i64 a, .int .i64 b, .int .i64 c]) (.agg #[.int .i64 d, .int .i64 e, .int .i64 c])).run Tryz.prog w = .ok (.bool true) w := by
  go_simp
  by_cases h1 : a = d
  · by_cases h2 : b = e
    · exact absurd ⟨h1, h2⟩ h
    · simp [h1, h2]
  · simp [h1]
theorem i_turnOf (a0 a1 a2 a3 : Option Addr) (n0 c0 n1 c1 n2 c2 n3 c3 : Nat) (am : Option Addr) (lm cm : Nat) (ah : Option Addr) (lh ch : Nat) (X : Hst) (w : World) :
    Calls Tryz.prog 62 #[.agg #[.slice a0 n0 c0, .slice a1 n1 c1, .slice a2 n2 c2, .slice a3 n3 c3, .slice am lm cm, .slice ah lh ch, .int .i64 X.slot, .int .i64 X.left, .int .i64 X.clock]] w fun e w' => e = .returned (.agg #[.int .i64 X.slot, .int .i64 X.left, .int .i64 X.clock]) ∧ Below w.heap.size w w' := by
  go_enter Tryz.func62, Tryz.ntmps62
  go_wp2_with fail
  exact bodyPost_ret (v := .agg #[.int .i64 X.slot, .int .i64 X.left, .int .i64 X.clock]) (by simp [results, Tryz.results62, go_sem]) rfl ⟨rfl, al (al (Below.refl _ _) _) _⟩
set_option maxRecDepth 20000 in
set_option maxHeartbeats 8000000 in
theorem i_hostFault (a0 a1 a2 a3 : Option Addr) (n0 c0 n1 c1 n2 c2 n3 c3 : Nat) (m h : Value) (X : Hst) (b : Nat) (w : World) (d : Oj w b a0 n0 c0 a1 n1 c1 a2 n2 c2 a3 n3 c3 m h X) (hg : w.cell? ⟨0, 0, none⟩ = some (.iface 206 (.agg #[.pointer (some ⟨1, 165, none⟩)]))) :
    Calls Tryz.prog 22 #[.agg #[.slice a0 n0 c0, .slice a1 n1 c1, .slice a2 n2 c2, .slice a3 n3 c3, m, h, .int .i64 X.slot, .int .i64 X.left, .int .i64 X.clock]] w fun e w' => e = .returned (.int .i64 (hoV X)) ∧ Below w.heap.size w w' := by
  obtain ⟨am, cm, rfl, _⟩ := d.mem.shape
  obtain ⟨ah, ch, rfl, _, lh2, gh⟩ := d.harts.shape
  obtain ⟨V, hV⟩ : ∃ V, hoV X = V := ⟨_, rfl⟩
  rw [hV]
  have HV : Hid (hoV X = V) := hV
  clear hV
  obtain ⟨lm, hlm⟩ : ∃ n, X.mem.length = n := ⟨_, rfl⟩
  obtain ⟨lh, hlh⟩ : ∃ n, X.harts.length = n := ⟨_, rfl⟩
  rw [hlm, hlh] at d
  rw [hlh] at gh
  rw [hlm, hlh]
  have HLH : Hid (X.harts.length = lh) := hlh
  have GH : Hid (0 < lh → ∃ g, ah = some ⟨g, 0, none⟩) := gh
  have HL0 : Hid (n0 = X.pol.own.length) := d.pol.own.len
  have HM0 : (n0 : Int) ≤ 9223372036854775807 := by have := d.pol.own.cap; unfold maxLen at this; omega
  have HMH : (lh : Int) ≤ 9223372036854775807 := by obtain ⟨_, _, _, t1, t2, _⟩ := d.harts.shape; rw [hlh] at t1; unfold maxLen at t2; omega
  clear hlm hlh gh lh2
  generalize hW : w.alloc (.cells #[.slice a0 n0 c0, .slice a1 n1 c1, .slice a2 n2 c2, .slice a3 n3 c3, .slice am lm cm, .slice ah lh ch, .int .i64 X.slot, .int .i64 X.left, .int .i64 X.clock] 48) = W
  have B0 : Hid (Below w.heap.size w W) := by show Below _ _ _; rw [← hW]; exact al (Below.refl _ _) _
  obtain ⟨s, hS⟩ : ∃ s, w.heap.size = s := ⟨_, rfl⟩
  have Q : Hid (Vb W s #[.slice a0 n0 c0, .slice a1 n1 c1, .slice a2 n2 c2, .slice a3 n3 c3, .slice am lm cm, .slice ah lh ch, .int .i64 X.slot, .int .i64 X.left, .int .i64 X.clock] 48) := by show Vb _ _ _ _; rw [← hW, ← hS]; exact Vb.new _ _ _
  have D : Hid (Oj W b a0 n0 c0 a1 n1 c1 a2 n2 c2 a3 n3 c3 (.slice am lm cm) (.slice ah lh ch) X) := d.keep B0.out
  have HG : Hid (W.cell? ⟨0, 0, none⟩ = some (.iface 206 (.agg #[.pointer (some ⟨1, 165, none⟩)]))) := cell_keep B0.out hg
  clear d hg
  have q0 := Q.out.cell 0 rfl
  have q1 := Q.out.cell 1 rfl
  have q2 := Q.out.cell 2 rfl
  have q3 := Q.out.cell 3 rfl
  go_enter Tryz.func22, Tryz.ntmps22
  go_wp2_with fail
  clear hW hS q0 q1 q2 q3
  refine (impl_policy _ _ _ _ _ _ _ _ _ _ _ _ X.pol _ D.out.pol HG.out).mono ?_
  rintro e w1 ⟨rfl, b1⟩
  have B1 : Hid (Below W.heap.size W w1) := b1
  have Q1 : Hid (Vb w1 s #[.slice a0 n0 c0, .slice a1 n1 c1, .slice a2 n2 c2, .slice a3 n3 c3, .slice am lm cm, .slice ah lh ch, .int .i64 X.slot, .int .i64 X.left, .int .i64 X.clock] 48) := Q.out.keep b1
  clear b1
  by_cases hz : pfV X.pol = 0
  case neg =>
    have E : Hid (pfV X.pol = V) := by show _ = _; rw [← HV.out, hoV, if_neg hz]
    rw [E.out] at hz ⊢
    go_wp2_with fail
    go_ret
    exact ⟨rfl, on B0.out B1.out⟩
  have PZ : Hid (pfV X.pol = 0) := hz
  rw [hz]
  clear hz
  have q4 := Q1.out.cell 4 rfl
  have q5 := Q1.out.cell 5 rfl
  have q0 := Q1.out.cell 0 rfl
  cases hw : wholeB X.mem
  case false =>
    have E : Hid (1 = V) := by show _ = _; rw [← HV.out, hoV, if_pos PZ.out, if_neg (by rw [hw]; simp)]
    go_wp2_with (go_at_call 59; refine (i_whole _ X.mem b _ (D.out.mem.keep B1.out)).mono ?_; rintro e w1 ⟨rfl, rfl⟩; rw [hw])
    go_ret
    exact ⟨ret_i E.out, on B0.out B1.out⟩
  by_cases hn : lh = n0
  case neg =>
    have E : Hid (1 = V) := by show _ = _; rw [← HV.out, hoV, if_pos PZ.out, if_neg (by rw [HLH.out, ← HL0.out]; exact fun k => hn k.2)]
    have hi : ¬ (lh : Int) = (n0 : Int) := by omega
    go_wp2_with (go_at_call 59; refine (i_whole _ X.mem b _ (D.out.mem.keep B1.out)).mono ?_; rintro e w1 ⟨rfl, rfl⟩; rw [hw])
    go_ret
    exact ⟨ret_i E.out, on B0.out B1.out⟩
  have ME : Hid (wholeB X.mem = true ∧ X.harts.length = X.pol.own.length) := ⟨hw, by rw [HLH.out, ← HL0.out]; exact hn⟩
  have hi : (lh : Int) = (n0 : Int) := by omega
  have HN0 : Hid (lh = n0) := hn
  clear hn
  go_wp2_with (go_at_call 59; refine (i_whole _ X.mem b _ (D.out.mem.keep B1.out)).mono ?_; rintro e w1 ⟨rfl, rfl⟩; rw [hw])
  clear q0 q4 q5 hi HM0
  go_loopw [30] (fun c wr => ∃ j : Nat, j ≤ lh ∧ c = .int .i64 j ∧ hartsV (X.harts.drop j) = hartsV X.harts ∧ Below W.heap.size W wr) (fun c _ => lh - (intOf c).toNat)
  case atStart => exact ⟨0, Nat.zero_le _, rfl, rfl, B1.out⟩
  case round =>
    obtain ⟨j, hj, rfl, hT, hB⟩ := hrel
    have HT : Hid (hartsV (X.harts.drop j) = hartsV X.harts) := hT
    have HB : Hid (Below W.heap.size W wr) := hB
    clear hT hB
    by_cases hlt : j < lh
    · obtain ⟨x1, e1⟩ := GH.out (by omega)
      subst e1
      obtain ⟨r, c, i, o, z1, z2, _⟩ := (D.out.harts.keep HB.out).at j (by rw [HLH.out]; exact hlt)
      have ST := harts_step X.harts j (by rw [HLH.out]; exact hlt)
      obtain ⟨H, hH⟩ : ∃ H, X.harts.getD j voidH = H := ⟨_, rfl⟩
      rw [hH] at z1 z2 ST
      have HST : Hid (_ = _) := ST
      obtain ⟨xr, lr, rfl, _⟩ := z2.r.shape
      obtain ⟨xc, lc, rfl, _⟩ := z2.c.shape
      obtain ⟨xi, li, rfl, _⟩ := z2.i.shape
      obtain ⟨xo, lo, rfl, _⟩ := z2.o.shape
      have Z2 : Hid (Hm wr b _ _ _ _ H) := z2
      generalize H.regs.length = m0 at *
      generalize H.csr.length = m1 at *
      generalize H.inn.length = mi at *
      generalize H.out.length = mo at *
      have y0 := z1.c0
      have y1 := z1.c1
      have y2 := z1.c2
      have y3 := z1.c3
      have y4 := z1.c4
      have y5 := z1.c5
      have y6 := z1.c6
      have y7 := z1.c7
      have y8 := z1.c8
      have hI : (j : Int) < (lh : Int) := by omega
      have hI0 : (j : Int) < (n0 : Int) := by have := HN0.out; omega
      have HL : Hid (j < lh) := hlt
      have xl : x1 < wr.heap.size := block_of_cell z1.c0
      clear z1 z2 hH hlt ST
      go_wp2_with fail
      clear y0 y1 y2 y3 y4 y5 y6 y7 y8 xl
      refine (i_fault _ _ _ _ H b _ (Z2.out.keep (al (Below.refl _ _) _))).mono ?_
      rintro e w2 ⟨rfl, b2⟩
      have B2 : Hid (Below W.heap.size W w2) := on HB.out (on (al (Below.refl _ _) _) b2)
      clear b2
      by_cases hf : hfV H = 0
      · have HT2 : Hid (hartsV (X.harts.drop (j + 1)) = hartsV X.harts) := by
          have t := HST.out
          rw [if_pos hf, HT.out] at t
          exact t.symm
        rw [hf]
        clear hf
        go_wp2_with fail
        go_roundw
        case rel => exact ⟨j + 1, by have := HL.out; omega, by go_num, HT2.out, B2.out⟩
        case measure => have := HL.out; simp [intOf]; omega
      · have HT2 : Hid (hfV H = V) := by
          have t := HST.out
          rw [if_neg hf, HT.out] at t
          show _ = _
          rw [← HV.out, hoV, if_pos PZ.out, if_pos ME.out, if_neg (by rw [t]; exact hf), t]
        rw [HT2.out] at hf ⊢
        go_wp2_with fail
        go_ret
        exact ⟨rfl, on B0.out B2.out⟩
    · have hJ : ¬ (j : Int) < (lh : Int) := by omega
      have hJ0 : ¬ (j : Int) < (n0 : Int) := by have := HN0.out; omega
      have HZ : Hid (hartsV X.harts = 0) := by
        show _ = _
        rw [← HT.out, List.drop_of_length_le (by rw [HLH.out]; omega)]
        rfl
      have Q2 : Hid (Vb wr s #[.slice a0 n0 c0, .slice a1 n1 c1, .slice a2 n2 c2, .slice a3 n3 c3, .slice am lm cm, .slice ah lh ch, .int .i64 X.slot, .int .i64 X.left, .int .i64 X.clock] 48) := Q.out.keep HB.out
      have q8 := Q2.out.cell 8 rfl
      clear hlt
      cases hk : ckOk X.clock
      case false =>
        have E : Hid (3 = V) := by show _ = _; rw [← HV.out, hoV, if_pos PZ.out, if_pos ME.out, if_pos HZ.out, if_neg (by rw [hk]; simp)]
        go_wp2_with (go_at_call 61; refine (i_clock _ _).mono ?_; rintro e w2 ⟨rfl, hw2⟩; rw [hw2]; clear hw2 w2; rw [hk])
        go_ret
        exact ⟨ret_i E.out, on B0.out HB.out⟩
      have CK : Hid (0 ≤ X.clock ∧ X.clock ≤ 1000000) := by show _ ∧ _; unfold ckOk at hk; simpa using hk
      have E : Hid ((if (tS X.pol X.clock).1 = X.slot ∧ (tS X.pol X.clock).2 = X.left then (0 : Int) else 1) = V) := by show _ = _; rw [← HV.out, hoV, if_pos PZ.out, if_pos ME.out, if_pos HZ.out, if_pos hk]
      go_wp2_with (go_at_call 61; refine (i_clock _ _).mono ?_; rintro e w2 ⟨rfl, hw2⟩; rw [hw2]; clear hw2 w2; rw [hk])
      clear q8 hk
      refine wp_region_held (S := fun w' => Below wr.heap.size wr w') (by kernel_rfl) ?_
      change wpAnyH _ _ _ _ _ _ _ _ (World.drew _)
      have SD : Hid (Below wr.heap.size wr wr.drew) := (Below.refl _ _).drew
      generalize wr.drew = x0 at *
      refine wpAnyH_take (i := 0) (v := .agg #[.slice a0 n0 c0, .slice a1 n1 c1, .slice a2 n2 c2, .slice a3 n3 c3, .slice am lm cm, .slice ah lh ch, .int .i64 X.slot, .int .i64 X.left, .int .i64 X.clock]) rfl (by kernel_rfl) (by kernel_rfl) (by kernel_rfl) (fun _ _ _ h => h) (Or.inl ⟨by rfl, fun w' hs => by have hq := Q2.out.keep hs; have y0 := hq.cell 0 rfl; have y1 := hq.cell 1 rfl; have y2 := hq.cell 2 rfl; have y3 := hq.cell 3 rfl; have y4 := hq.cell 4 rfl; have y5 := hq.cell 5 rfl; have y6 := hq.cell 6 rfl; have y7 := hq.cell 7 rfl; have y8 := hq.cell 8 rfl; go_simp⟩) SD.out ?_
      change wpAnyH _ _ _ _ _ _ _ (Act.put _ (some 44) _) _
      simp only [Act.put, List.setIfInBounds_toArray, List.set_cons_zero, List.set_cons_succ]
      refine wpAnyH_take (i := 2) (v := .pointer (some ⟨s, 0, none⟩)) rfl (by kernel_rfl) (by kernel_rfl) (by kernel_rfl) (fun _ _ _ h => h) (Or.inl ⟨by rfl, fun w' hs => by go_simp⟩) SD.out ?_
      change wpAnyH _ _ _ _ _ _ _ (Act.put _ (some 46) _) _
      simp only [Act.put, List.setIfInBounds_toArray, List.set_cons_zero, List.set_cons_succ]
      refine wpAnyH_take (i := 3) (v := .agg #[.slice a0 n0 c0, .slice a1 n1 c1, .slice a2 n2 c2, .slice a3 n3 c3]) rfl (by kernel_rfl) (by kernel_rfl) (by kernel_rfl) (fun _ _ _ h => h) (Or.inl ⟨by rfl, fun w' hs => by have hq := Q2.out.keep hs; have y0 := hq.cell 0 rfl; have y1 := hq.cell 1 rfl; have y2 := hq.cell 2 rfl; have y3 := hq.cell 3 rfl; go_simp⟩) SD.out ?_
      change wpAnyH _ _ _ _ _ _ _ (Act.put _ (some 47) _) _
      simp only [Act.put, List.setIfInBounds_toArray, List.set_cons_zero, List.set_cons_succ]
      refine wpAnyH_take (i := 4) (v := .pointer (some ⟨s, 8, none⟩)) rfl (by kernel_rfl) (by kernel_rfl) (by kernel_rfl) (fun _ _ _ h => h) (Or.inl ⟨by rfl, fun w' hs => by go_simp⟩) SD.out ?_
      change wpAnyH _ _ _ _ _ _ _ (Act.put _ (some 48) _) _
      simp only [Act.put, List.setIfInBounds_toArray, List.set_cons_zero, List.set_cons_succ]
      refine wpAnyH_take (i := 5) (v := .int .i64 X.clock) rfl (by kernel_rfl) (by kernel_rfl) (by kernel_rfl) (fun _ _ _ h => h) (Or.inl ⟨by rfl, fun w' hs => by have hq := Q2.out.keep hs; have y8 := hq.cell 8 rfl; go_simp⟩) SD.out ?_
      change wpAnyH _ _ _ _ _ _ _ (Act.put _ (some 49) _) _
      simp only [Act.put, List.setIfInBounds_toArray, List.set_cons_zero, List.set_cons_succ]
      refine wpAnyH_ready (rs := [1]) (by kernel_rfl) (by simp) ?_
      refine AllReadyH.cons rfl (fun K hK => ?_) AllReadyH.nil
      · skip
        rw [if_pos (by rfl)]
        go_simp
        refine (i_turnOf _ _ _ _ _ _ _ _ _ _ _ _ _ _ _ _ _ _ X _).mono ?_
        rintro e w3 ⟨rfl, b3⟩
        have S3 : Hid (Below wr.heap.size wr w3) := on SD.out b3
        clear b3
        refine hK.out _ _ S3.out (fun _ => ?_)
        clear hK K
        refine wpAnyH_ready (rs := [6]) (by kernel_rfl) (by simp) ?_
        refine AllReadyH.cons rfl (fun K hK => ?_) AllReadyH.nil
        rw [if_pos (by rfl)]
        go_simp
        refine (i_turnAt _ _ _ _ _ _ _ _ _ _ _ _ X.pol X.clock _ ((D.out.pol.stay HB.out).stay S3.out) (cell_keep S3.out (cell_keep HB.out HG.out)) PZ.out CK.out.1 CK.out.2).mono ?_
        rintro e w4 ⟨rfl, b4⟩
        have S4 : Hid (Below wr.heap.size wr w4) := on S3.out b4
        clear b4
        refine hK.out _ _ S4.out (fun _ => ?_)
        clear hK K
        obtain ⟨t1, ht1⟩ : ∃ t, (tS X.pol X.clock).1 = t := ⟨_, rfl⟩
        obtain ⟨t2, ht2⟩ : ∃ t, (tS X.pol X.clock).2 = t := ⟨_, rfl⟩
        rw [ht1, ht2] at E ⊢
        clear ht1 ht2
        by_cases ht : t1 = X.slot ∧ t2 = X.left
        · have E0 : Hid (0 = V) := by
            have t := E.out
            rw [if_pos ht] at t
            exact t
          obtain ⟨h1, h2⟩ := ht
          rw [h1, h2]
          refine wpAnyH_take (i := 7) (v := .bool false) rfl (by kernel_rfl) (by kernel_rfl) (by kernel_rfl) (fun _ _ _ h => h) (Or.inl ⟨by rfl, fun w' hs => by go_simp⟩) S4.out ?_
          change wpAnyH _ _ _ _ _ _ _ (Act.put _ (some 51) _) _
          simp only [Act.put, List.setIfInBounds_toArray, List.set_cons_zero, List.set_cons_succ]
          refine wpAnyH_done (by kernel_rfl) ?_ _
          go_wp2_with fail
          go_ret
          exact ⟨ret_i E0.out, on B0.out (on HB.out S4.out)⟩
        · have E0 : Hid (1 = V) := by
            have t := E.out
            rw [if_neg ht] at t
            exact t
          have hne := fun w => neq_turn X.slot X.left X.clock t1 t2 w (fun k => ht ⟨k.1.symm, k.2.symm⟩)
          refine wpAnyH_take (i := 7) (v := .bool true) rfl (by kernel_rfl) (by kernel_rfl) (by kernel_rfl) (fun _ _ _ h => h) (Or.inl ⟨by rfl, fun w' hs => by simp [go_sem, hne]⟩) S4.out ?_
          change wpAnyH _ _ _ _ _ _ _ (Act.put _ (some 51) _) _
          simp only [Act.put, List.setIfInBounds_toArray, List.set_cons_zero, List.set_cons_succ]
          refine wpAnyH_done (by kernel_rfl) ?_ _
          go_wp2_with fail
          go_ret
          exact ⟨ret_i E0.out, on B0.out (on HB.out S4.out)⟩
end Go.Proofs.YthnaggeilbcioaaGreatDoor
