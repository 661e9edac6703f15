/- Texts of this seat, joined. -/
import Derived.Test.YtdhdfopkcpkbeaaGreatDoorQ31
namespace Go.Proofs.YtdhdfopkcpkbeaaGreatDoor
open Go.RowKit
set_option linter.unusedVariables false

set_option maxRecDepth 20000 in
set_option maxHeartbeats 4000000 in
theorem i_bells (a0 a1 a2 a3 : Option Addr) (n0 c0 n1 c1 n2 c2 n3 c3 : Nat) (P : Plc) (w : World) (h : Pl w a0 n0 c0 a1 n1 c1 a2 n2 c2 a3 n3 c3 P) :
    Calls Tryz.prog 73 #[.agg #[.slice a0 n0 c0, .slice a1 n1 c1, .slice a2 n2 c2, .slice a3 n3 c3]] w fun e w' => e = .returned (errV (bellsV P.own.length [] P.bells)) ∧ Below w.heap.size w w' := by
  have HL0 : Hid (n0 = P.own.length) := h.own.len
  have HL2 : Hid (n2 = P.bells.length) := h.bells.len
  have HP1 : Hid (Pl (w.alloc (.cells #[.slice a0 n0 c0, .slice a1 n1 c1, .slice a2 n2 c2, .slice a3 n3 c3] 29)) a0 n0 c0 a1 n1 c1 a2 n2 c2 a3 n3 c3 P) := h.stay (al (Below.refl _ _) _)
  have hmax : (n2 : Int) ≤ 9223372036854775807 := by have := h.bells.cap; unfold maxLen at this; omega
  have hc2 : (n2 : Int) ≤ (c2 : Int) := by have := h.bells.cap; omega
  have HM0 : Hid ((n0 : Int) ≤ 9223372036854775807) := by have := h.own.cap; show _ ≤ _; unfold maxLen at this; omega
  have HB1 : Hid (Below w.heap.size w (w.alloc (.cells #[.slice a0 n0 c0, .slice a1 n1 c1, .slice a2 n2 c2, .slice a3 n3 c3] 29))) := al (Below.refl _ _) _
  have Q : Hid (((w.alloc (.cells #[.slice a0 n0 c0, .slice a1 n1 c1, .slice a2 n2 c2, .slice a3 n3 c3] 29))).cell? ⟨w.heap.size, 0, none⟩ = some (.slice a0 n0 c0) ∧ ((w.alloc (.cells #[.slice a0 n0 c0, .slice a1 n1 c1, .slice a2 n2 c2, .slice a3 n3 c3] 29))).cell? ⟨w.heap.size, 1, none⟩ = some (.slice a1 n1 c1) ∧ ((w.alloc (.cells #[.slice a0 n0 c0, .slice a1 n1 c1, .slice a2 n2 c2, .slice a3 n3 c3] 29))).cell? ⟨w.heap.size, 2, none⟩ = some (.slice a2 n2 c2) ∧ ((w.alloc (.cells #[.slice a0 n0 c0, .slice a1 n1 c1, .slice a2 n2 c2, .slice a3 n3 c3] 29))).cell? ⟨w.heap.size, 3, none⟩ = some (.slice a3 n3 c3)) := ⟨cell_new rfl, cell_new rfl, cell_new rfl, cell_new rfl⟩
  clear h
  go_enter Tryz.func73, Tryz.ntmps73
  go_wp2_with fail
  generalize (w.alloc (.cells #[.slice a0 n0 c0, .slice a1 n1 c1, .slice a2 n2 c2, .slice a3 n3 c3] 29)) = W1 at *
  obtain ⟨B0, hB0⟩ : ∃ B0, w.heap.size = B0 := ⟨_, rfl⟩
  rw [hB0] at Q ⊢
  clear hB0
  go_loopw [9] (fun c wr => ∃ j : Nat, j ≤ n2 ∧ c = .int .i64 j ∧ Below W1.heap.size W1 wr ∧ Hid (bellsV P.own.length [] P.bells = bellsV P.own.length (P.bells.take j) (P.bells.drop j))) (fun c _ => n2 - (intOf c).toNat)
  case atStart => exact ⟨0, Nat.zero_le _, rfl, Below.refl _ _, by show _ = _; simp⟩
  case round =>
    obtain ⟨j, hj, rfl, hB, hI⟩ := hrel
    have HB : Hid (Below W1.heap.size W1 wr) := hB
    have q0 := cell_keep hB Q.out.1
    have q1 := cell_keep hB Q.out.2.1
    have q2 := cell_keep hB Q.out.2.2.1
    have q3 := cell_keep hB Q.out.2.2.2
    have bB : B0 < wr.heap.size := block_of_cell q0
    by_cases hlt : j < n2
    · obtain ⟨x, rfl, k0, k1⟩ := (HP1.out.bells.stay hB).at j hlt
      have hJ : (j : Int) < (n2 : Int) := by omega
      have hjc : (j : Int) ≤ (c2 : Int) := by omega
      have HLT : Hid (j < n2) := hlt
      have ST : Hid (_ = _) := bells_step P.own.length P.bells j (by have := HL2.out; omega)
      obtain ⟨⟨f, t⟩, hL⟩ : ∃ L, P.bells.getD j (0, 0) = L := ⟨_, rfl⟩
      rw [hL] at k0 k1 ST
      simp only at k0 k1
      clear hL hlt hB
      have LQ : Hid ((wr.alloc (.cells #[.int .i64 f, .int .i64 t] 85)).cell? ⟨wr.heap.size, 0, none⟩ = some (.int .i64 f) ∧ (wr.alloc (.cells #[.int .i64 f, .int .i64 t] 85)).cell? ⟨wr.heap.size, 1, none⟩ = some (.int .i64 t)) := ⟨cell_new rfl, cell_new rfl⟩
      by_cases he : endsV n0 f t ≠ 0
      · have RV : Hid (bellsV P.own.length [] P.bells = endsV n0 f t) := by
          show _ = _
          have e : bellV P.own.length (P.bells.take j) (f, t) = endsV n0 f t := by rw [bellV, ← HL0.out, if_neg he]
          rw [hI.out, ST.out, e, if_neg he]
        have ev : errV (endsV n0 f t) = .iface 121 (.agg #[.int .i64 (endsV n0 f t)]) := by rw [errV, if_neg he]
        clear he
        generalize hv : endsV n0 f t = v at *
        go_wp2_with (go_at_call 94; refine (i_ends _ _ _ _ _ _ _ _ _ _ _ _ _ _ _ HM0.out).mono ?_; rintro e w2 ⟨rfl, b2⟩; have p0 := cell_keep b2 (cell_push _ q0); have p1 := cell_keep b2 (cell_push _ q1); have p2 := cell_keep b2 (cell_push _ q2); have p3 := cell_keep b2 (cell_push _ q3); have l0 := cell_keep b2 LQ.out.1; have l1 := cell_keep b2 LQ.out.2; have B2 : Hid (Below W1.heap.size W1 w2) := on (al HB.out _) b2; clear b2; rw [hv, ev])
        go_ret
        rw [RV.out, ev]
        exact ⟨rfl, on HB1.out B2.out⟩
      have he0 : endsV n0 f t = 0 := Decidable.not_not.1 he
      have V0 : Hid (bellV P.own.length (P.bells.take j) (f, t) = if (f, t) ∈ P.bells.take j then 6 else 0) := by
        show _ = _
        rw [bellV, ← HL0.out, if_pos he0]
      have ev0 : errV 0 = .nilIface := rfl
      clear he
      go_wp2_with (go_at_call 94; refine (i_ends _ _ _ _ _ _ _ _ _ _ _ _ _ _ _ HM0.out).mono ?_; rintro e w2 ⟨rfl, b2⟩; have p0 := cell_keep b2 (cell_push _ q0); have p1 := cell_keep b2 (cell_push _ q1); have p2 := cell_keep b2 (cell_push _ q2); have p3 := cell_keep b2 (cell_push _ q3); have l0 := cell_keep b2 LQ.out.1; have l1 := cell_keep b2 LQ.out.2; have B2 : Hid (Below W1.heap.size W1 w2) := on (al HB.out _) b2; clear b2; rw [he0, ev0])
      have HBp : Hid (IsPairs w2 (some x) j c2 (P.bells.take j)) := (HP1.out.bells.stay B2.out).pre j (Nat.le_of_lt HLT.out)
      have HB3 : Hid (Below w.heap.size w w2) := on HB1.out B2.out
      have inh : Nonempty (BW w2) := ⟨⟨w2, Below.refl _ _⟩⟩
      have z0 := BW.cell p0
      have z1 := BW.cell p1
      have z2 := BW.cell p2
      have z3 := BW.cell p3
      have y0 := BW.cell l0
      have y1 := BW.cell l1
      by_cases hm : (f, t) ∈ P.bells.take j
      · have RV : Hid (bellsV P.own.length [] P.bells = 6) := by
          show _ = _
          rw [hI.out, ST.out, V0.out, if_pos hm]
          rfl
        have CC : ∀ p : BW w2, Calls Tryz.prog 97 #[.slice (some x) j c2, .agg #[.int .i64 f, .int .i64 t]] p.w fun e w' => e = .returned (.bool true) ∧ Below p.w.heap.size p.w w' := fun p => by
          have t := i_containsB _ _ _ f t _ p.w (HBp.out.stay p.h)
          rw [decide_eq_true hm] at t
          exact t
        clear hm
        refine region_bw (by kernel_rfl) ?_
        repeat (quiet_step ((go_at_call 97; exact calls_bw (CC _))))
        refine wpQuiet_nil ?_
        rintro _ ⟨p9, rfl⟩
        have B9 : Hid (Below w.heap.size w p9.w) := on HB3.out p9.h
        go_wp2_with fail
        go_ret
        rw [RV.out]
        exact ⟨rfl, B9.out⟩
      · have V4 : Hid (bellV P.own.length (P.bells.take j) (f, t) = 0) := by show _ = _; rw [V0.out, if_neg hm]
        have CC : ∀ p : BW w2, Calls Tryz.prog 97 #[.slice (some x) j c2, .agg #[.int .i64 f, .int .i64 t]] p.w fun e w' => e = .returned (.bool false) ∧ Below p.w.heap.size p.w w' := fun p => by
          have t := i_containsB _ _ _ f t _ p.w (HBp.out.stay p.h)
          rw [decide_eq_false hm] at t
          exact t
        clear hm
        refine region_bw (by kernel_rfl) ?_
        repeat (quiet_step ((go_at_call 97; exact calls_bw (CC _))))
        refine wpQuiet_nil ?_
        rintro _ ⟨p9, rfl⟩
        have B9 : Hid (Below W1.heap.size W1 p9.w) := on B2.out p9.h
        go_wp2_with fail
        go_roundw
        case rel => exact ⟨j + 1, by have := HLT.out; omega, by go_num, B9.out, by show _ = _; rw [hI.out, ST.out, V4.out]; rfl⟩
        case measure => have := HLT.out; simp [intOf]; omega
    · have hJ : ¬ (j : Int) < (n2 : Int) := by omega
      have HJ : Hid (j = n2) := by show _ = _; omega
      clear hlt
      have RV : Hid (bellsV P.own.length [] P.bells = 0) := by
        show _ = _
        rw [hI.out, List.drop_of_length_le (by have := HL2.out; have := HJ.out; omega)]
        rfl
      go_wp2_with fail
      go_ret
      rw [RV.out]
      exact ⟨rfl, on HB1.out HB.out⟩

/-- The codes of the six looks, in their order. -/
def look (P : Plc) : Nat → Int
  | 0 => g1V P.own
  | 1 => g2V P.own
  | 2 => g3V P
  | 3 => lanesV P.own [] P.lanes
  | 4 => bellsV P.own.length [] P.bells
  | _ => g6V P
theorem look_first (P : Plc) (j : Nat) (hj : j < 6) (h : ∀ i, i < j → look P i = 0) (hn : look P j ≠ 0) : pfV P = look P j := by
  unfold pfV ownsV linksV restV
  match j, hj with
  | 0, _ => have e : g1V P.own ≠ 0 := hn; simp [orV, e, look]
  | 1, _ => have e : g2V P.own ≠ 0 := hn; have h0 : g1V P.own = 0 := h 0 (by omega); simp [orV, e, look, h0]
  | 2, _ => have e : g3V P ≠ 0 := hn; have h0 : g1V P.own = 0 := h 0 (by omega); have h1 : g2V P.own = 0 := h 1 (by omega); simp [orV, e, look, h0, h1]
  | 3, _ => have e : lanesV P.own [] P.lanes ≠ 0 := hn; have h0 : g1V P.own = 0 := h 0 (by omega); have h1 : g2V P.own = 0 := h 1 (by omega); have h2 : g3V P = 0 := h 2 (by omega); simp [orV, e, look, h0, h1, h2]
  | 4, _ => have e : bellsV P.own.length [] P.bells ≠ 0 := hn; have h0 : g1V P.own = 0 := h 0 (by omega); have h1 : g2V P.own = 0 := h 1 (by omega); have h2 : g3V P = 0 := h 2 (by omega); have h3 : lanesV P.own [] P.lanes = 0 := h 3 (by omega); simp [orV, e, look, h0, h1, h2, h3]
  | 5, _ => have e : g6V P ≠ 0 := hn; have h0 : g1V P.own = 0 := h 0 (by omega); have h1 : g2V P.own = 0 := h 1 (by omega); have h2 : g3V P = 0 := h 2 (by omega); have h3 : lanesV P.own [] P.lanes = 0 := h 3 (by omega); have h4 : bellsV P.own.length [] P.bells = 0 := h 4 (by omega); simp [orV, look, h0, h1, h2, h3, h4]
theorem look_none (P : Plc) (h : ∀ i, i < 6 → look P i = 0) : pfV P = 0 := by
  have h0 : g1V P.own = 0 := h 0 (by omega)
  have h1 : g2V P.own = 0 := h 1 (by omega)
  have h2 : g3V P = 0 := h 2 (by omega)
  have h3 : lanesV P.own [] P.lanes = 0 := h 3 (by omega)
  have h4 : bellsV P.own.length [] P.bells = 0 := h 4 (by omega)
  have h5 : g6V P = 0 := h 5 (by omega)
  simp [pfV, ownsV, linksV, restV, orV, h0, h1, h2, h3, h4, h5]
theorem g1_guests (own : List (List Int)) (h : g1V own = 0) : guestsV own = 0 := by
  unfold g1V at h
  split at h
  · cases h
  · exact h

set_option maxRecDepth 20000 in
set_option maxHeartbeats 4000000 in
theorem i_check (a0 a1 a2 a3 : Option Addr) (n0 c0 n1 c1 n2 c2 n3 c3 : Nat) (P : Plc) (w : World) (h : Pl w a0 n0 c0 a1 n1 c1 a2 n2 c2 a3 n3 c3 P) :
    Calls Tryz.prog 44 #[.agg #[.slice a0 n0 c0, .slice a1 n1 c1, .slice a2 n2 c2, .slice a3 n3 c3]] w fun e w' => e = .returned (errV (pfV P)) ∧ Below w.heap.size w w' := by
  have HP1 : Hid (Pl (w.alloc (.cells #[.slice a0 n0 c0, .slice a1 n1 c1, .slice a2 n2 c2, .slice a3 n3 c3] 29)) a0 n0 c0 a1 n1 c1 a2 n2 c2 a3 n3 c3 P) := h.stay (al (Below.refl _ _) _)
  have HB1 : Hid (Below w.heap.size w (w.alloc (.cells #[.slice a0 n0 c0, .slice a1 n1 c1, .slice a2 n2 c2, .slice a3 n3 c3] 29))) := al (Below.refl _ _) _
  have Q : Hid (((w.alloc (.cells #[.slice a0 n0 c0, .slice a1 n1 c1, .slice a2 n2 c2, .slice a3 n3 c3] 29))).cell? ⟨w.heap.size, 0, none⟩ = some (.slice a0 n0 c0) ∧ ((w.alloc (.cells #[.slice a0 n0 c0, .slice a1 n1 c1, .slice a2 n2 c2, .slice a3 n3 c3] 29))).cell? ⟨w.heap.size, 1, none⟩ = some (.slice a1 n1 c1) ∧ ((w.alloc (.cells #[.slice a0 n0 c0, .slice a1 n1 c1, .slice a2 n2 c2, .slice a3 n3 c3] 29))).cell? ⟨w.heap.size, 2, none⟩ = some (.slice a2 n2 c2) ∧ ((w.alloc (.cells #[.slice a0 n0 c0, .slice a1 n1 c1, .slice a2 n2 c2, .slice a3 n3 c3] 29))).cell? ⟨w.heap.size, 3, none⟩ = some (.slice a3 n3 c3)) := ⟨cell_new rfl, cell_new rfl, cell_new rfl, cell_new rfl⟩
  have ev0 : errV 0 = .nilIface := rfl
  clear h
  have hst := fun (k : Nat) (a : Addr) (W : World) => run_store Tryz.prog W a (.func (.func k) #[] #[]) .plain rfl
  go_enter Tryz.func44, Tryz.ntmps44
  go_wp2_with fail
  clear hst
  go_loopw [9] (fun c wr => ∃ j : Nat, j ≤ 6 ∧ c = .int .i64 j ∧ Below ((w.alloc (.cells #[.slice a0 n0 c0, .slice a1 n1 c1, .slice a2 n2 c2, .slice a3 n3 c3] 29))).heap.size (w.alloc (.cells #[.slice a0 n0 c0, .slice a1 n1 c1, .slice a2 n2 c2, .slice a3 n3 c3] 29)) wr ∧ Hid (∀ i, i < j → look P i = 0)) (fun c _ => 6 - (intOf c).toNat)
  case atStart => exact ⟨0, Nat.zero_le _, rfl, al (Below.refl _ _) _, fun i hi => absurd hi (Nat.not_lt_zero _)⟩
  case round =>
    obtain ⟨j, hj, hc, hB, hI⟩ := hrel
    have HB : Hid (Below _ _ wr) := hB
    have q0 := cell_keep hB Q.out.1
    have q1 := cell_keep hB Q.out.2.1
    have q2 := cell_keep hB Q.out.2.2.1
    have q3 := cell_keep hB Q.out.2.2.2
    have HPr : Hid (Pl wr a0 n0 c0 a1 n1 c1 a2 n2 c2 a3 n3 c3 P) := HP1.out.stay hB
    have HBw : Hid (Below w.heap.size w wr) := on HB1.out hB
    clear hB
    by_cases hlt : j < 6
    · have next : Hid (look P j = 0 → ∀ i, i < j + 1 → look P i = 0) := fun h0 i hi => by
        rcases Nat.lt_or_ge i j with h | h
        · exact hI.out i h
        · obtain rfl : i = j := by omega
          exact h0
      have first : Hid (look P j ≠ 0 → pfV P = look P j) := look_first P j hlt hI.out
      have cs : j = 0 ∨ j = 1 ∨ j = 2 ∨ j = 3 ∨ j = 4 ∨ j = 5 := by omega
      rcases cs with rfl | rfl | rfl | rfl | rfl | rfl
      · have hc' : _ = Value.int .i64 0 := hc
        subst hc'
        have ix : ∀ W, (Instr.index 124 (.agg #[.func (.func 69) #[] #[], .func (.func 70) #[] #[], .func (.func 71) #[] #[], .func (.func 72) #[] #[], .func (.func 73) #[] #[], .func (.func 74) #[] #[]]) (.int .i64 0)).run Tryz.prog W = .ok (.func (.func 69) #[] #[]) W := fun W => by kernel_rfl
        by_cases hz : g1V P.own = 0
        · have NX : Hid (∀ i, i < 0 + 1 → look P i = 0) := next.out hz
          go_wp2_with (go_at_call 69; refine (i_guests _ _ _ _ _ _ _ _ _ _ _ _ P _ HPr.out).mono ?_; rintro e w2 ⟨rfl, b2⟩; rw [hz, ev0])
          go_roundw
          case rel => exact ⟨0 + 1, by omega, by first | rfl | go_num, on HB.out b2, NX⟩
          case measure => simp [intOf]
        · have FV : Hid (pfV P = g1V P.own) := first.out hz
          have ev : errV (g1V P.own) = .iface 121 (.agg #[.int .i64 (g1V P.own)]) := by rw [errV, if_neg hz]
          clear hz
          go_wp2_with (go_at_call 69; refine (i_guests _ _ _ _ _ _ _ _ _ _ _ _ P _ HPr.out).mono ?_; rintro e w2 ⟨rfl, b2⟩; rw [ev])
          go_ret
          rw [FV.out, ev]
          exact ⟨rfl, on HBw.out b2⟩
      · have hc' : _ = Value.int .i64 1 := hc
        subst hc'
        have ix : ∀ W, (Instr.index 124 (.agg #[.func (.func 69) #[] #[], .func (.func 70) #[] #[], .func (.func 71) #[] #[], .func (.func 72) #[] #[], .func (.func 73) #[] #[], .func (.func 74) #[] #[]]) (.int .i64 1)).run Tryz.prog W = .ok (.func (.func 70) #[] #[]) W := fun W => by kernel_rfl
        have GZ : Hid (guestsV P.own = 0) := g1_guests _ (hI.out 0 (by omega))
        by_cases hz : g2V P.own = 0
        · have NX : Hid (∀ i, i < 1 + 1 → look P i = 0) := next.out hz
          go_wp2_with (go_at_call 70; refine (i_owned _ _ _ _ _ _ _ _ _ _ _ _ P _ HPr.out GZ.out).mono ?_; rintro e w2 ⟨rfl, b2⟩; rw [hz, ev0])
          go_roundw
          case rel => exact ⟨1 + 1, by omega, by first | rfl | go_num, on HB.out b2, NX⟩
          case measure => simp [intOf]
        · have FV : Hid (pfV P = g2V P.own) := first.out hz
          have ev : errV (g2V P.own) = .iface 121 (.agg #[.int .i64 (g2V P.own)]) := by rw [errV, if_neg hz]
          clear hz
          go_wp2_with (go_at_call 70; refine (i_owned _ _ _ _ _ _ _ _ _ _ _ _ P _ HPr.out GZ.out).mono ?_; rintro e w2 ⟨rfl, b2⟩; rw [ev])
          go_ret
          rw [FV.out, ev]
          exact ⟨rfl, on HBw.out b2⟩
      · have hc' : _ = Value.int .i64 2 := hc
        subst hc'
        have ix : ∀ W, (Instr.index 124 (.agg #[.func (.func 69) #[] #[], .func (.func 70) #[] #[], .func (.func 71) #[] #[], .func (.func 72) #[] #[], .func (.func 73) #[] #[], .func (.func 74) #[] #[]]) (.int .i64 2)).run Tryz.prog W = .ok (.func (.func 71) #[] #[]) W := fun W => by kernel_rfl
        by_cases hz : g3V P = 0
        · have NX : Hid (∀ i, i < 2 + 1 → look P i = 0) := next.out hz
          go_wp2_with (go_at_call 71; refine (i_links _ _ _ _ _ _ _ _ _ _ _ _ P _ HPr.out).mono ?_; rintro e w2 ⟨rfl, b2⟩; rw [hz, ev0])
          go_roundw
          case rel => exact ⟨2 + 1, by omega, by first | rfl | go_num, on HB.out b2, NX⟩
          case measure => simp [intOf]
        · have FV : Hid (pfV P = g3V P) := first.out hz
          have ev : errV (g3V P) = .iface 121 (.agg #[.int .i64 (g3V P)]) := by rw [errV, if_neg hz]
          clear hz
          go_wp2_with (go_at_call 71; refine (i_links _ _ _ _ _ _ _ _ _ _ _ _ P _ HPr.out).mono ?_; rintro e w2 ⟨rfl, b2⟩; rw [ev])
          go_ret
          rw [FV.out, ev]
          exact ⟨rfl, on HBw.out b2⟩
      · have hc' : _ = Value.int .i64 3 := hc
        subst hc'
        have ix : ∀ W, (Instr.index 124 (.agg #[.func (.func 69) #[] #[], .func (.func 70) #[] #[], .func (.func 71) #[] #[], .func (.func 72) #[] #[], .func (.func 73) #[] #[], .func (.func 74) #[] #[]]) (.int .i64 3)).run Tryz.prog W = .ok (.func (.func 72) #[] #[]) W := fun W => by kernel_rfl
        by_cases hz : lanesV P.own [] P.lanes = 0
        · have NX : Hid (∀ i, i < 3 + 1 → look P i = 0) := next.out hz
          go_wp2_with (go_at_call 72; refine (i_lanes _ _ _ _ _ _ _ _ _ _ _ _ P _ HPr.out).mono ?_; rintro e w2 ⟨rfl, b2⟩; rw [hz, ev0])
          go_roundw
          case rel => exact ⟨3 + 1, by omega, by first | rfl | go_num, on HB.out b2, NX⟩
          case measure => simp [intOf]
        · have FV : Hid (pfV P = lanesV P.own [] P.lanes) := first.out hz
          have ev : errV (lanesV P.own [] P.lanes) = .iface 121 (.agg #[.int .i64 (lanesV P.own [] P.lanes)]) := by rw [errV, if_neg hz]
          clear hz
          go_wp2_with (go_at_call 72; refine (i_lanes _ _ _ _ _ _ _ _ _ _ _ _ P _ HPr.out).mono ?_; rintro e w2 ⟨rfl, b2⟩; rw [ev])
          go_ret
          rw [FV.out, ev]
          exact ⟨rfl, on HBw.out b2⟩
      · have hc' : _ = Value.int .i64 4 := hc
        subst hc'
        have ix : ∀ W, (Instr.index 124 (.agg #[.func (.func 69) #[] #[], .func (.func 70) #[] #[], .func (.func 71) #[] #[], .func (.func 72) #[] #[], .func (.func 73) #[] #[], .func (.func 74) #[] #[]]) (.int .i64 4)).run Tryz.prog W = .ok (.func (.func 73) #[] #[]) W := fun W => by kernel_rfl
        by_cases hz : bellsV P.own.length [] P.bells = 0
        · have NX : Hid (∀ i, i < 4 + 1 → look P i = 0) := next.out hz
          go_wp2_with (go_at_call 73; refine (i_bells _ _ _ _ _ _ _ _ _ _ _ _ P _ HPr.out).mono ?_; rintro e w2 ⟨rfl, b2⟩; rw [hz, ev0])
          go_roundw
          case rel => exact ⟨4 + 1, by omega, by first | rfl | go_num, on HB.out b2, NX⟩
          case measure => simp [intOf]
        · have FV : Hid (pfV P = bellsV P.own.length [] P.bells) := first.out hz
          have ev : errV (bellsV P.own.length [] P.bells) = .iface 121 (.agg #[.int .i64 (bellsV P.own.length [] P.bells)]) := by rw [errV, if_neg hz]
          clear hz
          go_wp2_with (go_at_call 73; refine (i_bells _ _ _ _ _ _ _ _ _ _ _ _ P _ HPr.out).mono ?_; rintro e w2 ⟨rfl, b2⟩; rw [ev])
          go_ret
          rw [FV.out, ev]
          exact ⟨rfl, on HBw.out b2⟩
      · have hc' : _ = Value.int .i64 5 := hc
        subst hc'
        have ix : ∀ W, (Instr.index 124 (.agg #[.func (.func 69) #[] #[], .func (.func 70) #[] #[], .func (.func 71) #[] #[], .func (.func 72) #[] #[], .func (.func 73) #[] #[], .func (.func 74) #[] #[]]) (.int .i64 5)).run Tryz.prog W = .ok (.func (.func 74) #[] #[]) W := fun W => by kernel_rfl
        by_cases hz : g6V P = 0
        · have NX : Hid (∀ i, i < 5 + 1 → look P i = 0) := next.out hz
          go_wp2_with (go_at_call 74; refine (i_plan _ _ _ _ _ _ _ _ _ _ _ _ P _ HPr.out).mono ?_; rintro e w2 ⟨rfl, b2⟩; rw [hz, ev0])
          go_roundw
          case rel => exact ⟨5 + 1, by omega, by first | rfl | go_num, on HB.out b2, NX⟩
          case measure => simp [intOf]
        · have FV : Hid (pfV P = g6V P) := first.out hz
          have ev : errV (g6V P) = .iface 121 (.agg #[.int .i64 (g6V P)]) := by rw [errV, if_neg hz]
          clear hz
          go_wp2_with (go_at_call 74; refine (i_plan _ _ _ _ _ _ _ _ _ _ _ _ P _ HPr.out).mono ?_; rintro e w2 ⟨rfl, b2⟩; rw [ev])
          go_ret
          rw [FV.out, ev]
          exact ⟨rfl, on HBw.out b2⟩
    · obtain rfl : j = 6 := by omega
      have hc' : _ = Value.int .i64 6 := hc
      subst hc'
      have FV : Hid (pfV P = 0) := look_none P hI.out
      go_wp2_with fail
      go_ret
      rw [FV.out]
      exact ⟨rfl, HBw.out⟩

set_option maxHeartbeats 1000000 in
theorem impl_policy (a0 a1 a2 a3 : Option Addr) (n0 c0 n1 c1 n2 c2 n3 c3 : Nat) (P : Plc) (w : World) (h : Pl w a0 n0 c0 a1 n1 c1 a2 n2 c2 a3 n3 c3 P) (hg : w.cell? ⟨0, 0, none⟩ = some (.iface 157 (.agg #[.pointer (some ⟨1, 91, none⟩)]))) :
    Calls Tryz.prog 20 #[.agg #[.slice a0 n0 c0, .slice a1 n1 c1, .slice a2 n2 c2, .slice a3 n3 c3]] w fun e w' => e = .returned (.int .i64 (pfV P)) ∧ Below w.heap.size w w' := by
  have HP1 : Hid (Pl (w.alloc (.cells #[.slice a0 n0 c0, .slice a1 n1 c1, .slice a2 n2 c2, .slice a3 n3 c3] 29)) a0 n0 c0 a1 n1 c1 a2 n2 c2 a3 n3 c3 P) := h.stay (al (Below.refl _ _) _)
  have HG : Hid (_ = _) := cell_push (.cells #[.slice a0 n0 c0, .slice a1 n1 c1, .slice a2 n2 c2, .slice a3 n3 c3] 29) hg
  have HB1 : Hid (Below w.heap.size w (w.alloc (.cells #[.slice a0 n0 c0, .slice a1 n1 c1, .slice a2 n2 c2, .slice a3 n3 c3] 29))) := al (Below.refl _ _) _
  clear h hg
  by_cases hz : pfV P = 0
  · have ev : errV (pfV P) = .nilIface := by rw [hz]; rfl
    rw [hz]
    go_enter Tryz.func20, Tryz.ntmps20
    go_wp2_with (first
      | (go_at_call 44; refine (i_check _ _ _ _ _ _ _ _ _ _ _ _ P _ HP1.out).mono ?_; rintro e w2 ⟨rfl, b2⟩; rw [ev])
      | (go_at_call 43; refine (code_nil _).mono ?_; rintro e w3 ⟨rfl, b3⟩))
    go_ret
    exact ⟨rfl, on (on HB1.out b2) b3⟩
  · have ev : errV (pfV P) = .iface 121 (.agg #[.int .i64 (pfV P)]) := by rw [errV, if_neg hz]
    go_enter Tryz.func20, Tryz.ntmps20
    go_wp2_with (first
      | (go_at_call 44; refine (i_check _ _ _ _ _ _ _ _ _ _ _ _ P _ HP1.out).mono ?_; rintro e w2 ⟨rfl, b2⟩; rw [ev])
      | (go_at_call 43; refine (code_hit _ _ (cell_keep b2 HG.out)).mono ?_; rintro e w3 ⟨rfl, b3⟩))
    go_ret
    exact ⟨rfl, on (on HB1.out b2) b3⟩
end Go.Proofs.YtdhdfopkcpkbeaaGreatDoor
