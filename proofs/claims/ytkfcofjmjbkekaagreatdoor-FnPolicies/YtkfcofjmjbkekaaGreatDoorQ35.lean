/- Texts of this seat, joined. -/
import Derived.Deep.RegionWith
import Derived.Test.YtkfcofjmjbkekaaGreatDoorQ07
import Derived.Test.YtkfcofjmjbkekaaGreatDoorQ13
import Derived.Test.YtkfcofjmjbkekaaGreatDoorQ34
namespace Go.Proofs.YtkfcofjmjbkekaaGreatDoor
open Go.RowKit
set_option linter.unusedVariables false

theorem two3 {v : World} {q : Nat} {t : TypeId} {z0 z1 : Value} (h : Vb v q #[z0, z1] t) (u0 u1 : Value) :
    Vb ((v.setCell ⟨q, 0, none⟩ u0).setCell ⟨q, 1, none⟩ u1) q #[u0, u1] t := by
  have h0 : Vb (v.setCell ⟨q, 0, none⟩ u0) q #[u0, z1] t := h.set 0 u0
  exact h0.set 1 u1
theorem rn2 (w : World) (f t : Int) {ty : TypeId} {k : Nat} (h : k = w.heap.size) : Rn (w.alloc (.cells #[.int .i64 f, .int .i64 t] ty)) (some ⟨k, 0, none⟩) 2 2 [f, t] := by
  subst h
  refine .inr ⟨_, rfl, by decide, by decide, rfl, fun i hi => ?_⟩
  rw [Addr.add_lit, Nat.zero_add]
  match i, hi with
  | 0, _ => exact cell_new rfl
  | 1, _ => exact cell_new rfl
theorem rn5 (w : World) (f d g p t : Int) {ty : TypeId} {k : Nat} (h : k = w.heap.size) : Rn (w.alloc (.cells #[.int .i64 f, .int .i64 d, .int .i64 g, .int .i64 p, .int .i64 t] ty)) (some ⟨k, 0, none⟩) 5 5 [f, d, g, p, t] := by
  subst h
  refine .inr ⟨_, rfl, by decide, by decide, rfl, fun i hi => ?_⟩
  rw [Addr.add_lit, Nat.zero_add]
  match i, hi with
  | 0, _ => exact cell_new rfl
  | 1, _ => exact cell_new rfl
  | 2, _ => exact cell_new rfl
  | 3, _ => exact cell_new rfl
  | 4, _ => exact cell_new rfl
set_option maxRecDepth 20000 in
set_option maxHeartbeats 8000000 in
theorem s_text6 (q : Nat) (P : Plc) (w : World) (h : PolAt w q P) (hf : Fm P) :
    Calls Tryz.prog 31 #[.pointer (some ⟨q, 0, none⟩)] w fun e w' => e = .returned (.string (bs (fmW P))) ∧ Below w.heap.size w w' := by
  obtain ⟨V, hV⟩ : ∃ V, bs (fmW P) = V := ⟨_, rfl⟩
  rw [hV]
  have HV : Hid (bs (fmW P) = V) := hV
  obtain ⟨a0, n0, c0, a1, n1, c1, a2, n2, c2, a3, n3, c3, q0, q1, q2, q3, pl⟩ := h
  have Q : Hid (w.cell? ⟨q, 0, none⟩ = some (.slice a0 n0 c0) ∧ w.cell? ⟨q, 1, none⟩ = some (.slice a1 n1 c1) ∧ w.cell? ⟨q, 2, none⟩ = some (.slice a2 n2 c2) ∧ w.cell? ⟨q, 3, none⟩ = some (.slice a3 n3 c3)) := ⟨q0, q1, q2, q3⟩
  have HP : Hid (Pl w a0 n0 c0 a1 n1 c1 a2 n2 c2 a3 n3 c3 P) := pl
  have HF : Hid (Fm P) := hf
  have HN : Hid (n0 = P.own.length ∧ n1 = P.lanes.length ∧ n2 = P.bells.length ∧ n3 = P.plan.length) := ⟨HP.out.own.len, HP.out.lanes.len, HP.out.bells.len, HP.out.plan.len⟩
  have HC0 : Hid ((n0 : Int) ≤ (c0 : Int)) := by have := HP.out.own.cap; show _ ≤ _; omega
  have HC1 : Hid ((n1 : Int) ≤ (c1 : Int)) := by have := HP.out.lanes.cap; show _ ≤ _; omega
  have HC2 : Hid ((n2 : Int) ≤ (c2 : Int)) := by have := HP.out.bells.cap; show _ ≤ _; omega
  have HC3 : Hid ((n3 : Int) ≤ (c3 : Int)) := by have := HP.out.plan.cap; show _ ≤ _; omega
  have i0 : (n0 : Int) ≤ 3 := by have := HN.out.1; have := HF.out.o3; omega
  have i1 : (n1 : Int) ≤ 4 := by have := HN.out.2.1; have := HF.out.l4; omega
  have i2 : (n2 : Int) ≤ 4 := by have := HN.out.2.2.1; have := HF.out.b4; omega
  have i3 : (n3 : Int) ≤ 8 := by have := HN.out.2.2.2; have := HF.out.s8; omega
  clear hV q0 q1 q2 q3 pl hf
  go_enter Tryz.func31, Tryz.ntmps31
  go_wp2_with fail
  go_loopw [3, 4] (fun u i wr => ∃ j : Nat, j ≤ n0 ∧ i = .int .i64 j ∧ u = .string (bs (fm0 P j)) ∧ Below w.heap.size w wr) (fun _ i _ => n0 - (intOf i).toNat)
  case atStart => exact ⟨0, Nat.zero_le _, rfl, by simp [fm0, lsW, bs], Below.refl _ _⟩
  case round =>
    obtain ⟨j, hj, rfl, rfl, hB⟩ := hrel
    have HB : Hid (Below w.heap.size w wr) := hB
    have q0 := cell_keep hB Q.out.1
    by_cases hlt : j < n0
    · have hJ : (j : Int) < (n0 : Int) := by omega
      have HL : Hid (j < n0) := hlt
      have hjc : (j : Int) ≤ (c0 : Int) := by have := HC0.out; omega
      obtain ⟨x, b, l, c, rfl, cx, nz⟩ := (HP.out.own.stay hB).at j hlt
      have NX : Hid (_ = _) := fm0_next (P := P) (j := j) (by have := HN.out.1; omega)
      have LK : Hid (LkOk (P.own.getD j [])) := lk_at HF.out.ok0 (by have := HN.out.1; omega)
      obtain ⟨zs, hz⟩ : ∃ zs, P.own.getD j [] = zs := ⟨_, rfl⟩
      rw [hz] at nz NX LK
      have NZ : Hid (Rn wr b l c zs) := nz
      have NL : Hid (l ≤ 40) := by show _ ≤ _; have := NZ.out.len; have := LK.out.1; omega
      clear hz nz
      have DL : Hid ((nlW wdOwn zs).length ≤ 500) := nl_len LK.out.2 LK.out.1 (by decide)
      have LL : Hid ((fm0 P j).length ≤ 16000) := fm0_len HF.out j
      have EN : Hid (bs (fm0 P (j + 1)) = bs (fm0 P j) ++ bs (nlW wdOwn zs)) := by show _ = _; rw [NX.out, bs_app]
      have EV : Hid (bs (nlW wdOwn zs) = bs (nlW wdOwn zs)) := rfl
      clear hlt hj hB NX
      have z1 : ¬ 9223372036854775807 < (bs (fm0 P j)).size + (bs (nlW wdOwn zs)).size := by rw [bs_size, bs_size]; have := LL.out; have := DL.out; omega
      obtain ⟨D, hD⟩ : ∃ D, bs (nlW wdOwn zs) = D := ⟨_, rfl⟩
      obtain ⟨L, hL⟩ : ∃ L, bs (fm0 P j) = L := ⟨_, rfl⟩
      rw [EV.out, hD, hL] at EN
      rw [hD, hL] at z1
      rw [hL]
      have FD : Hid (bs (nlW wdOwn zs) = D) := hD
      clear hD hL EV LL DL
      go_wp2_with (go_at_call 48; refine (s_line wdOwn _ _ _ zs _ NZ.out LK.out.2 NL.out (by decide)).mono ?_; rintro e w1 ⟨rfl, b1⟩; rw [FD.out])
      go_roundw
      case rel => exact ⟨j + 1, by have := HL.out; omega, by go_num, by rw [EN.out], on HB.out b1⟩
      case measure => have := HL.out; simp [intOf]; omega
    · have hJ : ¬ (j : Int) < (n0 : Int) := by omega
      have EJ : fm0 P j = fm1 P 0 := by rw [show j = P.own.length by have := HN.out.1; omega]; exact fm1_zero
      rw [EJ]
      clear EJ hlt hj hB
      go_wp2_with fail
      clear hJ q0
      go_loopw [3, 5] (fun u i wr => ∃ j : Nat, j ≤ n1 ∧ i = .int .i64 j ∧ u = .string (bs (fm1 P j)) ∧ Below w.heap.size w wr) (fun _ i _ => n1 - (intOf i).toNat)
      case atStart => exact ⟨0, Nat.zero_le _, rfl, rfl, HB.out⟩
      case round =>
        obtain ⟨j, hj, rfl, rfl, hB⟩ := hrel
        have HB : Hid (Below w.heap.size w wr) := hB
        have q1 := cell_keep hB Q.out.2.1
        by_cases hlt : j < n1
        · have hJ : (j : Int) < (n1 : Int) := by omega
          have HL : Hid (j < n1) := hlt
          have hjc : (j : Int) ≤ (c1 : Int) := by have := HC1.out; omega
          obtain ⟨x, rfl, k0, k1, k2, k3, k4⟩ := (HP.out.lanes.stay hB).at j hlt
          have NX : Hid (_ = _) := fm1_next (P := P) (j := j) (by have := HN.out.2.1; omega)
          have LK : Hid (LkOk (ln5 (P.lanes.getD j lz))) := by show LkOk _; rw [← map_getD ln5 P.lanes lz j (by have := HN.out.2.1; omega)]; exact lk_at HF.out.ok1 (by have := HN.out.2.1; simp; omega)
          obtain ⟨⟨f, d, g, p, t⟩, hz⟩ : ∃ L, P.lanes.getD j lz = L := ⟨_, rfl⟩
          rw [hz] at k0 k1 k2 k3 k4 NX LK
          simp only at k0 k1 k2 k3 k4
          have LK : Hid (LkOk [f, d, g, p, t]) := LK.out
          clear hz
          have DL : Hid ((nlW wdLane (ln5 ⟨f, d, g, p, t⟩)).length ≤ 500) := nl_len LK.out.2 LK.out.1 (by decide)
          have LL : Hid ((fm1 P j).length ≤ 16000) := fm1_len HF.out j
          have EN : Hid (bs (fm1 P (j + 1)) = bs (fm1 P j) ++ bs (nlW wdLane (ln5 ⟨f, d, g, p, t⟩))) := by show _ = _; rw [NX.out, bs_app]
          have EV : Hid (bs (nlW wdLane (ln5 ⟨f, d, g, p, t⟩)) = bs (nlW wdLane [f, d, g, p, t])) := rfl
          clear hlt hj hB NX
          have z1 : ¬ 9223372036854775807 < (bs (fm1 P j)).size + (bs (nlW wdLane [f, d, g, p, t])).size := by rw [bs_size, bs_size]; have := LL.out; have := DL.out; simp only [ln5] at *; omega
          obtain ⟨D, hD⟩ : ∃ D, bs (nlW wdLane [f, d, g, p, t]) = D := ⟨_, rfl⟩
          obtain ⟨L, hL⟩ : ∃ L, bs (fm1 P j) = L := ⟨_, rfl⟩
          rw [EV.out, hD, hL] at EN
          rw [hD, hL] at z1
          rw [hL]
          have FD : Hid (bs (nlW wdLane [f, d, g, p, t]) = D) := hD
          clear hD hL EV LL DL
          go_wp2_with (go_at_call 48; refine (s_line wdLane _ _ _ [f, d, g, p, t] _ (rn5 _ _ _ _ _ _ (by simp)) LK.out.2 (by decide) (by decide)).mono ?_; rintro e w1 ⟨rfl, b1⟩; rw [FD.out])
          go_roundw
          case rel => exact ⟨j + 1, by have := HL.out; omega, by go_num, by rw [EN.out], on (al (al HB.out _) _) b1⟩
          case measure => have := HL.out; simp [intOf]; omega
        · have hJ : ¬ (j : Int) < (n1 : Int) := by omega
          have EJ : fm1 P j = fm2 P 0 := by rw [show j = P.lanes.length by have := HN.out.2.1; omega]; exact fm2_zero
          rw [EJ]
          clear EJ hlt hj hB
          go_wp2_with fail
          clear hJ q1
          go_loopw [3, 7] (fun u i wr => ∃ j : Nat, j ≤ n2 ∧ i = .int .i64 j ∧ u = .string (bs (fm2 P j)) ∧ Below w.heap.size w wr) (fun _ i _ => n2 - (intOf i).toNat)
          case atStart => exact ⟨0, Nat.zero_le _, rfl, rfl, HB.out⟩
          case round =>
            obtain ⟨j, hj, rfl, rfl, hB⟩ := hrel
            have HB : Hid (Below w.heap.size w wr) := hB
            have q2 := cell_keep hB Q.out.2.2.1
            by_cases hlt : j < n2
            · have hJ : (j : Int) < (n2 : Int) := by omega
              have HL : Hid (j < n2) := hlt
              have hjc : (j : Int) ≤ (c2 : Int) := by have := HC2.out; omega
              obtain ⟨x, rfl, k0, k1⟩ := (HP.out.bells.stay hB).at j hlt
              have NX : Hid (_ = _) := fm2_next (P := P) (j := j) (by have := HN.out.2.2.1; omega)
              have LK : Hid (LkOk (pr2 (P.bells.getD j (0, 0)))) := by show LkOk _; rw [← map_getD pr2 P.bells (0, 0) j (by have := HN.out.2.2.1; omega)]; exact lk_at HF.out.ok2 (by have := HN.out.2.2.1; simp; omega)
              obtain ⟨⟨f, t⟩, hz⟩ : ∃ L, P.bells.getD j (0, 0) = L := ⟨_, rfl⟩
              rw [hz] at k0 k1 NX LK
              simp only at k0 k1
              have LK : Hid (LkOk [f, t]) := LK.out
              clear hz
              have DL : Hid ((nlW wdBell (pr2 (f, t))).length ≤ 500) := nl_len LK.out.2 LK.out.1 (by decide)
              have LL : Hid ((fm2 P j).length ≤ 16000) := fm2_len HF.out j
              have EN : Hid (bs (fm2 P (j + 1)) = bs (fm2 P j) ++ bs (nlW wdBell (pr2 (f, t)))) := by show _ = _; rw [NX.out, bs_app]
              have EV : Hid (bs (nlW wdBell (pr2 (f, t))) = bs (nlW wdBell [f, t])) := rfl
              clear hlt hj hB NX
              have z1 : ¬ 9223372036854775807 < (bs (fm2 P j)).size + (bs (nlW wdBell [f, t])).size := by rw [bs_size, bs_size]; have := LL.out; have := DL.out; simp only [pr2] at *; omega
              obtain ⟨D, hD⟩ : ∃ D, bs (nlW wdBell [f, t]) = D := ⟨_, rfl⟩
              obtain ⟨L, hL⟩ : ∃ L, bs (fm2 P j) = L := ⟨_, rfl⟩
              rw [EV.out, hD, hL] at EN
              rw [hD, hL] at z1
              rw [hL]
              have FD : Hid (bs (nlW wdBell [f, t]) = D) := hD
              clear hD hL EV LL DL
              go_wp2_with fail
              go_region_with (go_at_call 48; refine (s_line wdBell _ _ _ [f, t] _ (by first | exact rn2 _ _ _ (by simp) | exact Rn.stay (rn2 _ _ _ (by simp)) (Below.refl _ _).drew) LK.out.2 (by decide) (by decide)).mono ?_; rintro e w1 ⟨rfl, b1⟩; rw [FD.out]; first | have BB := on (al HB.out _) b1 | have BB := on (al HB.out.drew _) b1 | have BB := on (al HB.out _).drew b1 | have BB := on (al HB.out.drew _).drew b1 | have BB := on (al HB.out.drew.drew _) b1 | have BB := on (al HB.out.drew.drew.drew _) b1)
              all_goals go_wp2_with fail
              all_goals go_roundw
              all_goals first
                | (show ∃ _, _; exact ⟨j + 1, by have := HL.out; omega, by go_num, by rw [EN.out], by first | exact BB | exact BB.drew⟩)
                | (have := HL.out; simp [intOf]; omega)
            · have hJ : ¬ (j : Int) < (n2 : Int) := by omega
              have EJ : fm2 P j = fm3 P 0 := by rw [show j = P.bells.length by have := HN.out.2.2.1; omega]; exact fm3_zero
              rw [EJ]
              clear EJ hlt hj hB
              go_wp2_with fail
              clear hJ q2
              go_loopw [3, 8] (fun u i wr => ∃ j : Nat, j ≤ n3 ∧ i = .int .i64 j ∧ u = .string (bs (fm3 P j)) ∧ Below w.heap.size w wr) (fun _ i _ => n3 - (intOf i).toNat)
              case atStart => exact ⟨0, Nat.zero_le _, rfl, rfl, HB.out⟩
              case round =>
                obtain ⟨j, hj, rfl, rfl, hB⟩ := hrel
                have HB : Hid (Below w.heap.size w wr) := hB
                have q3 := cell_keep hB Q.out.2.2.2
                by_cases hlt : j < n3
                · have hJ : (j : Int) < (n3 : Int) := by omega
                  have HL : Hid (j < n3) := hlt
                  have hjc : (j : Int) ≤ (c3 : Int) := by have := HC3.out; omega
                  obtain ⟨x, rfl, k0, k1⟩ := (HP.out.plan.stay hB).at j hlt
                  have NX : Hid (_ = _) := fm3_next (P := P) (j := j) (by have := HN.out.2.2.2; omega)
                  have LK : Hid (LkOk (pr2 (P.plan.getD j (0, 0)))) := by show LkOk _; rw [← map_getD pr2 P.plan (0, 0) j (by have := HN.out.2.2.2; omega)]; exact lk_at HF.out.ok3 (by have := HN.out.2.2.2; simp; omega)
                  obtain ⟨⟨f, t⟩, hz⟩ : ∃ L, P.plan.getD j (0, 0) = L := ⟨_, rfl⟩
                  rw [hz] at k0 k1 NX LK
                  simp only at k0 k1
                  have LK : Hid (LkOk [f, t]) := LK.out
                  clear hz
                  have DL : Hid ((nlW wdSlot (pr2 (f, t))).length ≤ 500) := nl_len LK.out.2 LK.out.1 (by decide)
                  have LL : Hid ((fm3 P j).length ≤ 16000) := fm3_len HF.out j
                  have EN : Hid (bs (fm3 P (j + 1)) = bs (fm3 P j) ++ bs (nlW wdSlot (pr2 (f, t)))) := by show _ = _; rw [NX.out, bs_app]
                  have EV : Hid (bs (nlW wdSlot (pr2 (f, t))) = bs (nlW wdSlot [f, t])) := rfl
                  clear hlt hj hB NX
                  have z1 : ¬ 9223372036854775807 < (bs (fm3 P j)).size + (bs (nlW wdSlot [f, t])).size := by rw [bs_size, bs_size]; have := LL.out; have := DL.out; simp only [pr2] at *; omega
                  obtain ⟨D, hD⟩ : ∃ D, bs (nlW wdSlot [f, t]) = D := ⟨_, rfl⟩
                  obtain ⟨L, hL⟩ : ∃ L, bs (fm3 P j) = L := ⟨_, rfl⟩
                  rw [EV.out, hD, hL] at EN
                  rw [hD, hL] at z1
                  rw [hL]
                  have FD : Hid (bs (nlW wdSlot [f, t]) = D) := hD
                  clear hD hL EV LL DL
                  go_wp2_with fail
                  go_region_with (go_at_call 48; refine (s_line wdSlot _ _ _ [f, t] _ (by first | exact rn2 _ _ _ (by simp) | exact Rn.stay (rn2 _ _ _ (by simp)) (Below.refl _ _).drew) LK.out.2 (by decide) (by decide)).mono ?_; rintro e w1 ⟨rfl, b1⟩; rw [FD.out]; first | have BB := on (al HB.out _) b1 | have BB := on (al HB.out.drew _) b1 | have BB := on (al HB.out _).drew b1 | have BB := on (al HB.out.drew _).drew b1 | have BB := on (al HB.out.drew.drew _) b1 | have BB := on (al HB.out.drew.drew.drew _) b1)
                  all_goals go_wp2_with fail
                  all_goals go_roundw
                  all_goals first
                    | (show ∃ _, _; exact ⟨j + 1, by have := HL.out; omega, by go_num, by rw [EN.out], by first | exact BB | exact BB.drew⟩)
                    | (have := HL.out; simp [intOf]; omega)
                · have hJ : ¬ (j : Int) < (n3 : Int) := by omega
                  have EJ : bs (fm3 P j) = V := by rw [← HV.out, fmW, show j = P.plan.length by have := HN.out.2.2.2; omega]
                  rw [EJ]
                  clear EJ hlt hj hB
                  go_wp2_with fail
                  go_ret
                  exact ⟨rfl, HB.out⟩
set_option maxRecDepth 20000 in
set_option maxHeartbeats 8000000 in
theorem s_formatP (a0 a1 a2 a3 : Option Addr) (n0 c0 n1 c1 n2 c2 n3 c3 : Nat) (P : Plc) (w : World) (h : Pl w a0 n0 c0 a1 n1 c1 a2 n2 c2 a3 n3 c3 P) :
    Calls Tryz.prog 13 #[.agg #[.slice a0 n0 c0, .slice a1 n1 c1, .slice a2 n2 c2, .slice a3 n3 c3]] w fun e w' => e = .returned (.agg #[.int .i64 (fmR P).1, .string (bs (fmR P).2)]) ∧ Below w.heap.size w w' := by
  obtain ⟨U, hU⟩ : ∃ U, (fmR P).1 = U := ⟨_, rfl⟩
  obtain ⟨T, hT⟩ : ∃ T, bs (fmR P).2 = T := ⟨_, rfl⟩
  rw [hU, hT]
  have HU : Hid ((fmR P).1 = U ∧ bs (fmR P).2 = T) := ⟨hU, hT⟩
  clear hU hT
  generalize hW : (w.alloc (.cells #[.slice a0 n0 c0, .slice a1 n1 c1, .slice a2 n2 c2, .slice a3 n3 c3] 30)).alloc (.cells #[.int .i64 0, .string ⟨#[]⟩] 35) = W
  have B0 : Hid (Below w.heap.size w W) := by show Below _ _ _; rw [← hW]; exact al (al (Below.refl _ _) _) _
  obtain ⟨s, hS⟩ : ∃ s, w.heap.size = s := ⟨_, rfl⟩
  have HSs : Hid (w.heap.size = s) := hS
  have Q : Hid (Vb W s #[.slice a0 n0 c0, .slice a1 n1 c1, .slice a2 n2 c2, .slice a3 n3 c3] 30) := by show Vb _ _ _ _; rw [← hW, ← hS]; exact (Vb.new _ _ _).push _
  have R : Hid (Vb W (s + 1) #[.int .i64 0, .string ⟨#[]⟩] 35) := by
    have z1 : s + 1 = (w.alloc (.cells #[.slice a0 n0 c0, .slice a1 n1 c1, .slice a2 n2 c2, .slice a3 n3 c3] 30)).heap.size := by rw [← hS]; simp
    show Vb _ _ _ _; rw [← hW, z1]; exact Vb.new _ _ _
  have HP : Hid (Pl W a0 n0 c0 a1 n1 c1 a2 n2 c2 a3 n3 c3 P) := h.stay B0.out
  have HA : Hid (PolAt W s P) := ⟨_, _, _, _, _, _, _, _, _, _, _, _, Q.out.cell 0 rfl, Q.out.cell 1 rfl, Q.out.cell 2 rfl, Q.out.cell 3 rfl, HP.out⟩
  clear h
  have q0 := Q.out.cell 0 rfl
  have q1 := Q.out.cell 1 rfl
  have q2 := Q.out.cell 2 rfl
  have q3 := Q.out.cell 3 rfl
  go_enter Tryz.func13, Tryz.ntmps13
  go_wp2_with fail
  clear hW hS q0 q1 q2 q3
  refine (l6_fault _ P _ HA.out).mono ?_
  rintro e w1 ⟨rfl, b1⟩
  have B1 : Hid (Below w.heap.size w w1) := on B0.out b1
  have R1 : Hid (Vb w1 (s + 1) #[.int .i64 0, .string ⟨#[]⟩] 35) := R.out.keep b1
  have A1 : Hid (PolAt w1 s P) := HA.out.stay b1
  clear b1
  by_cases hf : pfV P = 0
  case neg =>
    have t1 : pfV P = U := by rw [← HU.out.1, fmR, if_neg hf]
    have t2 : ⟨#[]⟩ = T := by rw [← HU.out.2, fmR, if_neg hf]; rfl
    clear HU
    rw [t1]
    subst t2
    rw [t1] at hf
    clear t1
    have p0 := R1.out.cell 0 rfl
    have f0 := R1.out.free 0
    have p1 := R1.out.cell 1 rfl
    have f1 := R1.out.free 1
    go_wp2_with fail
    have NN : Hid (Vb ((w1.setCell ⟨s + 1, 0, none⟩ (.int .i64 U)).setCell ⟨s + 1, 1, none⟩ (.string ⟨#[]⟩)) (s + 1) #[.int .i64 U, .string ⟨#[]⟩] 35) := two3 R1.out (.int .i64 U) (.string ⟨#[]⟩)
    have BN : Hid (Below w.heap.size w ((w1.setCell ⟨s + 1, 0, none⟩ (.int .i64 U)).setCell ⟨s + 1, 1, none⟩ (.string ⟨#[]⟩))) := (B1.out.setCell (by have := HSs.out; show w.heap.size ≤ s + 1; omega) _).setCell (by have := HSs.out; show w.heap.size ≤ s + 1; omega) _
    clear p0 f0 p1 f1
    generalize ((w1.setCell ⟨s + 1, 0, none⟩ (.int .i64 U)).setCell ⟨s + 1, 1, none⟩ (.string ⟨#[]⟩)) = V at *
    have x0 := NN.out.cell 0 rfl
    have x1 := NN.out.cell 1 rfl
    exact bodyPost_ret (v := .agg #[.int .i64 U, .string ⟨#[]⟩]) (by simp [results, Tryz.results13, go_sem, x0, x1]) rfl ⟨rfl, BN.out⟩
  have t1 : 0 = U := by rw [← HU.out.1, fmR, if_pos hf]
  have ET : Hid (bs (fmW P) = T) := by show _ = _; rw [← HU.out.2, fmR, if_pos hf]
  have FM : Hid (Fm P) := fm_of hf
  subst t1
  rw [hf]
  clear hf HU
  go_wp2_with fail
  refine (s_text6 _ P _ A1.out FM.out).mono ?_
  rintro e w4 ⟨rfl, b4⟩
  have B4 : Hid (Below w.heap.size w w4) := on B1.out b4
  have R4 : Hid (Vb w4 (s + 1) #[.int .i64 0, .string ⟨#[]⟩] 35) := R1.out.keep b4
  clear b4
  rw [ET.out]
  have p0 := R4.out.cell 0 rfl
  have f0 := R4.out.free 0
  have p1 := R4.out.cell 1 rfl
  have f1 := R4.out.free 1
  go_wp2_with fail
  have NN : Hid (Vb ((w4.setCell ⟨s + 1, 0, none⟩ (.int .i64 0)).setCell ⟨s + 1, 1, none⟩ (.string T)) (s + 1) #[.int .i64 0, .string T] 35) := two3 R4.out (.int .i64 0) (.string T)
  have BN : Hid (Below w.heap.size w ((w4.setCell ⟨s + 1, 0, none⟩ (.int .i64 0)).setCell ⟨s + 1, 1, none⟩ (.string T))) := (B4.out.setCell (by have := HSs.out; show w.heap.size ≤ s + 1; omega) _).setCell (by have := HSs.out; show w.heap.size ≤ s + 1; omega) _
  clear p0 f0 p1 f1
  generalize ((w4.setCell ⟨s + 1, 0, none⟩ (.int .i64 0)).setCell ⟨s + 1, 1, none⟩ (.string T)) = V at *
  have x0 := NN.out.cell 0 rfl
  have x1 := NN.out.cell 1 rfl
  exact bodyPost_ret (v := .agg #[.int .i64 0, .string T]) (by simp [results, Tryz.results13, go_sem, x0, x1]) rfl ⟨rfl, BN.out⟩
end Go.Proofs.YtkfcofjmjbkekaaGreatDoor
