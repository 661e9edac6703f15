/- What is due: the model's. -/
import Derived.Test.YtaajaikpkcgalaaDoorHdu
namespace Go.Proofs.YtaajaikpkcgalaaDoor
open Go.RowKit
set_option linter.unusedVariables false

theorem due_even {H : Ht} (h : gt H.csr 0 % 2 = 0) : dueV H = -1 := by
  unfold dueV
  exact if_pos (.inl h)
theorem due_none {H : Ht} (h : bothV H = 0) : dueV H = -1 := by
  unfold dueV
  exact if_pos (.inr h)
theorem due_some {H : Ht} {b : Int} (h : ¬ gt H.csr 0 % 2 = 0) (k : bothV H = b) (hb : ¬ b = 0) : dueV H = lowV b := by
  unfold dueV
  rw [if_neg (fun e => e.elim h (fun e => hb (k.symm.trans e))), k]

set_option maxRecDepth 20000 in
set_option maxHeartbeats 8000000 in
theorem s_due (q : Nat) (r c i o : Value) (H : Ht) (b : Nat) (w : World) (h : Hm w b r c i o H) (hv : Vb w q #[r, .int .i64 H.pc, c, .bool H.halted, .bool H.waiting, .bool H.rung, .int .i64 H.done, i, o] 26) (K : Hok H) :
    Calls Tryd.prog 39 #[.pointer (some ⟨q, 0, none⟩)] w fun e w' => e = .returned (.int .i64 (dueV H)) ∧ Below w.heap.size w w' := by
  have HM : Hid (Hm w b r c i o H) := h
  have HV : Hid (Vb w q #[r, .int .i64 H.pc, c, .bool H.halted, .bool H.waiting, .bool H.rung, .int .i64 H.done, i, o] 26) := hv
  have hc := K.c11
  have HC : Hid (H.csr.length = 11) := hc
  have BE := both_eq H (all_at K.cw 7).1 (all_at K.cw 7).2
  have br := both_range H
  obtain ⟨a1, k1, rfl, _, _, g1⟩ := h.c.shape
  obtain ⟨y1, rfl⟩ := g1 (by omega)
  have c2 : w.cell? ⟨q, 2, none⟩ = some (.slice (some ⟨y1, 0, none⟩) 11 k1) := by rw [← hc]; exact hv.cell 2 rfl
  obtain ⟨z, hz⟩ : ∃ g, gt H.csr 0 = g := ⟨_, rfl⟩
  obtain ⟨g7, hg7⟩ : ∃ g, gt H.csr 7 = g := ⟨_, rfl⟩
  obtain ⟨pv, hp⟩ : ∃ g, pendV H = g := ⟨_, rfl⟩
  obtain ⟨bv, hb⟩ : ∃ g, bothV H = g := ⟨_, rfl⟩
  have c7 : w.cell? ⟨y1, 7, none⟩ = some (.int .i64 g7) := by rw [← hg7]; exact h.c.cell rfl 7 (by omega)
  have c0 : w.cell? ⟨y1, 0, none⟩ = some (.int .i64 z) := by rw [← hz]; exact h.c.cell rfl 0 (by omega)
  have z0 : 0 ≤ z := by rw [← hz]; exact (all_at K.cw 0).1
  have z9 : z ≤ 4294967295 := by rw [← hz]; exact (all_at K.cw 0).2
  have t2 : z.tmod 2 = z % 2 := Int.tmod_eq_emod_of_nonneg z0
  have HPV : Hid (pendV H = pv) := hp
  have HZ : Hid (gt H.csr 0 = z) := hz
  have HB : Hid (bothV H = bv) := hb
  rw [hg7, hp, hb] at BE
  rw [hb] at br
  clear h hv K hc g1 hz hg7 hp hb
  by_cases hev : z % 2 = 0
  · have HE : Hid (dueV H = -1) := due_even (by rw [HZ.out]; exact hev)
    go_enter Tryd.func39, Tryd.ntmps39
    go_wp2_with fail
    go_region_with (go_at_call 51; refine (s_pending q _ _ _ _ H b _ (by first | exact HM.out | exact HM.out.keep (Below.refl _ _).drew) (by first | exact HV.out | exact HV.out.keep (Below.refl _ _).drew) HC.out).mono ?_; rintro e y ⟨rfl, by1⟩; rw [HPV.out]; have c2 := cell_keep by1 c2; have c7 := cell_keep by1 c7; have c0 := cell_keep by1 c0; have BY : Hid (Below w.heap.size w y) := (by first | exact by1 | exact on (Below.refl _ _).drew by1); clear by1)
    all_goals go_wp2_with fail
    all_goals go_ret
    all_goals exact ⟨ret_i HE.out.symm, (by first | exact BY.out | exact BY.out.drew)⟩
  have hod : (z % 2 == 0) = false := by simp [hev]
  have NE : Hid (¬ gt H.csr 0 % 2 = 0) := by rw [HZ.out]; exact hev
  have e : bv = 0 ∨ bv = 1 ∨ bv = 2 ∨ bv = 3 ∨ bv = 4 ∨ bv = 5 ∨ bv = 6 ∨ bv = 7 := by omega
  rcases e with rfl | rfl | rfl | rfl | rfl | rfl | rfl | rfl
  · have HE : Hid (dueV H = -1) := due_none HB.out
    have a0 : bits BinOp.and IntKind.i64 0 1 = 0 := by decide
    have a1 : bits BinOp.and IntKind.i64 1 1 = 1 := by decide
    have a2 : bits BinOp.and IntKind.i64 2 1 = 0 := by decide
    have a3 : bits BinOp.and IntKind.i64 3 1 = 1 := by decide
    have a4 : bits BinOp.and IntKind.i64 4 1 = 0 := by decide
    have a5 : bits BinOp.and IntKind.i64 5 1 = 1 := by decide
    have a6 : bits BinOp.and IntKind.i64 6 1 = 0 := by decide
    have a7 : bits BinOp.and IntKind.i64 7 1 = 1 := by decide
    go_enter Tryd.func39, Tryd.ntmps39
    go_wp2_with fail
    go_region_with (go_at_call 51; refine (s_pending q _ _ _ _ H b _ (by first | exact HM.out | exact HM.out.keep (Below.refl _ _).drew) (by first | exact HV.out | exact HV.out.keep (Below.refl _ _).drew) HC.out).mono ?_; rintro e y ⟨rfl, by1⟩; rw [HPV.out]; have c2 := cell_keep by1 c2; have c7 := cell_keep by1 c7; have c0 := cell_keep by1 c0; have BY : Hid (Below w.heap.size w y) := (by first | exact by1 | exact on (Below.refl _ _).drew by1); clear by1)
    all_goals go_wp2_with fail
    all_goals
      go_loop [4] (fun i => ∃ j : Nat, j ≤ 3 ∧ i = .int .i64 j) (fun i => 3 - (intOf i).toNat)
      case atStart => exact ⟨0, Nat.zero_le _, rfl⟩
      case round =>
        obtain ⟨j, hj, rfl⟩ := hrel
        have ej : j = 0 ∨ j = 1 ∨ j = 2 ∨ j = 3 := by omega
        rcases ej with rfl | rfl | rfl | rfl
        · go_wp2_with fail
          go_round
          case rel => exact ⟨1, by omega, by go_num⟩
          case measure => simp [intOf]
        · go_wp2_with fail
          go_round
          case rel => exact ⟨2, by omega, by go_num⟩
          case measure => simp [intOf]
        · go_wp2_with fail
          go_round
          case rel => exact ⟨3, by omega, by go_num⟩
          case measure => simp [intOf]
        · go_wp2_with fail
          go_ret
          exact ⟨ret_i HE.out.symm, (by first | exact BY.out | exact BY.out.drew)⟩
  · have HE : Hid (dueV H = 0) := (due_some NE.out HB.out (by decide)).trans (by decide)
    have a0 : bits BinOp.and IntKind.i64 0 1 = 0 := by decide
    have a1 : bits BinOp.and IntKind.i64 1 1 = 1 := by decide
    have a2 : bits BinOp.and IntKind.i64 2 1 = 0 := by decide
    have a3 : bits BinOp.and IntKind.i64 3 1 = 1 := by decide
    have a4 : bits BinOp.and IntKind.i64 4 1 = 0 := by decide
    have a5 : bits BinOp.and IntKind.i64 5 1 = 1 := by decide
    have a6 : bits BinOp.and IntKind.i64 6 1 = 0 := by decide
    have a7 : bits BinOp.and IntKind.i64 7 1 = 1 := by decide
    go_enter Tryd.func39, Tryd.ntmps39
    go_wp2_with fail
    go_region_with (go_at_call 51; refine (s_pending q _ _ _ _ H b _ (by first | exact HM.out | exact HM.out.keep (Below.refl _ _).drew) (by first | exact HV.out | exact HV.out.keep (Below.refl _ _).drew) HC.out).mono ?_; rintro e y ⟨rfl, by1⟩; rw [HPV.out]; have c2 := cell_keep by1 c2; have c7 := cell_keep by1 c7; have c0 := cell_keep by1 c0; have BY : Hid (Below w.heap.size w y) := (by first | exact by1 | exact on (Below.refl _ _).drew by1); clear by1)
    all_goals go_wp2_with fail
    all_goals
      go_loop [4] (fun i => ∃ j : Nat, j ≤ 0 ∧ i = .int .i64 j) (fun i => 3 - (intOf i).toNat)
      case atStart => exact ⟨0, Nat.zero_le _, rfl⟩
      case round =>
        obtain ⟨j, hj, rfl⟩ := hrel
        have ej : j = 0 := by omega
        rcases ej with rfl
        · go_wp2_with fail
          go_ret
          exact ⟨ret_i HE.out.symm, (by first | exact BY.out | exact BY.out.drew)⟩
  · have HE : Hid (dueV H = 1) := (due_some NE.out HB.out (by decide)).trans (by decide)
    have a0 : bits BinOp.and IntKind.i64 0 1 = 0 := by decide
    have a1 : bits BinOp.and IntKind.i64 1 1 = 1 := by decide
    have a2 : bits BinOp.and IntKind.i64 2 1 = 0 := by decide
    have a3 : bits BinOp.and IntKind.i64 3 1 = 1 := by decide
    have a4 : bits BinOp.and IntKind.i64 4 1 = 0 := by decide
    have a5 : bits BinOp.and IntKind.i64 5 1 = 1 := by decide
    have a6 : bits BinOp.and IntKind.i64 6 1 = 0 := by decide
    have a7 : bits BinOp.and IntKind.i64 7 1 = 1 := by decide
    go_enter Tryd.func39, Tryd.ntmps39
    go_wp2_with fail
    go_region_with (go_at_call 51; refine (s_pending q _ _ _ _ H b _ (by first | exact HM.out | exact HM.out.keep (Below.refl _ _).drew) (by first | exact HV.out | exact HV.out.keep (Below.refl _ _).drew) HC.out).mono ?_; rintro e y ⟨rfl, by1⟩; rw [HPV.out]; have c2 := cell_keep by1 c2; have c7 := cell_keep by1 c7; have c0 := cell_keep by1 c0; have BY : Hid (Below w.heap.size w y) := (by first | exact by1 | exact on (Below.refl _ _).drew by1); clear by1)
    all_goals go_wp2_with fail
    all_goals
      go_loop [4] (fun i => ∃ j : Nat, j ≤ 1 ∧ i = .int .i64 j) (fun i => 3 - (intOf i).toNat)
      case atStart => exact ⟨0, Nat.zero_le _, rfl⟩
      case round =>
        obtain ⟨j, hj, rfl⟩ := hrel
        have ej : j = 0 ∨ j = 1 := by omega
        rcases ej with rfl | rfl
        · go_wp2_with fail
          go_round
          case rel => exact ⟨1, by omega, by go_num⟩
          case measure => simp [intOf]
        · go_wp2_with fail
          go_ret
          exact ⟨ret_i HE.out.symm, (by first | exact BY.out | exact BY.out.drew)⟩
  · have HE : Hid (dueV H = 0) := (due_some NE.out HB.out (by decide)).trans (by decide)
    have a0 : bits BinOp.and IntKind.i64 0 1 = 0 := by decide
    have a1 : bits BinOp.and IntKind.i64 1 1 = 1 := by decide
    have a2 : bits BinOp.and IntKind.i64 2 1 = 0 := by decide
    have a3 : bits BinOp.and IntKind.i64 3 1 = 1 := by decide
    have a4 : bits BinOp.and IntKind.i64 4 1 = 0 := by decide
    have a5 : bits BinOp.and IntKind.i64 5 1 = 1 := by decide
    have a6 : bits BinOp.and IntKind.i64 6 1 = 0 := by decide
    have a7 : bits BinOp.and IntKind.i64 7 1 = 1 := by decide
    go_enter Tryd.func39, Tryd.ntmps39
    go_wp2_with fail
    go_region_with (go_at_call 51; refine (s_pending q _ _ _ _ H b _ (by first | exact HM.out | exact HM.out.keep (Below.refl _ _).drew) (by first | exact HV.out | exact HV.out.keep (Below.refl _ _).drew) HC.out).mono ?_; rintro e y ⟨rfl, by1⟩; rw [HPV.out]; have c2 := cell_keep by1 c2; have c7 := cell_keep by1 c7; have c0 := cell_keep by1 c0; have BY : Hid (Below w.heap.size w y) := (by first | exact by1 | exact on (Below.refl _ _).drew by1); clear by1)
    all_goals go_wp2_with fail
    all_goals
      go_loop [4] (fun i => ∃ j : Nat, j ≤ 0 ∧ i = .int .i64 j) (fun i => 3 - (intOf i).toNat)
      case atStart => exact ⟨0, Nat.zero_le _, rfl⟩
      case round =>
        obtain ⟨j, hj, rfl⟩ := hrel
        have ej : j = 0 := by omega
        rcases ej with rfl
        · go_wp2_with fail
          go_ret
          exact ⟨ret_i HE.out.symm, (by first | exact BY.out | exact BY.out.drew)⟩
  · have HE : Hid (dueV H = 2) := (due_some NE.out HB.out (by decide)).trans (by decide)
    have a0 : bits BinOp.and IntKind.i64 0 1 = 0 := by decide
    have a1 : bits BinOp.and IntKind.i64 1 1 = 1 := by decide
    have a2 : bits BinOp.and IntKind.i64 2 1 = 0 := by decide
    have a3 : bits BinOp.and IntKind.i64 3 1 = 1 := by decide
    have a4 : bits BinOp.and IntKind.i64 4 1 = 0 := by decide
    have a5 : bits BinOp.and IntKind.i64 5 1 = 1 := by decide
    have a6 : bits BinOp.and IntKind.i64 6 1 = 0 := by decide
    have a7 : bits BinOp.and IntKind.i64 7 1 = 1 := by decide
    go_enter Tryd.func39, Tryd.ntmps39
    go_wp2_with fail
    go_region_with (go_at_call 51; refine (s_pending q _ _ _ _ H b _ (by first | exact HM.out | exact HM.out.keep (Below.refl _ _).drew) (by first | exact HV.out | exact HV.out.keep (Below.refl _ _).drew) HC.out).mono ?_; rintro e y ⟨rfl, by1⟩; rw [HPV.out]; have c2 := cell_keep by1 c2; have c7 := cell_keep by1 c7; have c0 := cell_keep by1 c0; have BY : Hid (Below w.heap.size w y) := (by first | exact by1 | exact on (Below.refl _ _).drew by1); clear by1)
    all_goals go_wp2_with fail
    all_goals
      go_loop [4] (fun i => ∃ j : Nat, j ≤ 2 ∧ i = .int .i64 j) (fun i => 3 - (intOf i).toNat)
      case atStart => exact ⟨0, Nat.zero_le _, rfl⟩
      case round =>
        obtain ⟨j, hj, rfl⟩ := hrel
        have ej : j = 0 ∨ j = 1 ∨ j = 2 := by omega
        rcases ej with rfl | rfl | rfl
        · go_wp2_with fail
          go_round
          case rel => exact ⟨1, by omega, by go_num⟩
          case measure => simp [intOf]
        · go_wp2_with fail
          go_round
          case rel => exact ⟨2, by omega, by go_num⟩
          case measure => simp [intOf]
        · go_wp2_with fail
          go_ret
          exact ⟨ret_i HE.out.symm, (by first | exact BY.out | exact BY.out.drew)⟩
  · have HE : Hid (dueV H = 0) := (due_some NE.out HB.out (by decide)).trans (by decide)
    have a0 : bits BinOp.and IntKind.i64 0 1 = 0 := by decide
    have a1 : bits BinOp.and IntKind.i64 1 1 = 1 := by decide
    have a2 : bits BinOp.and IntKind.i64 2 1 = 0 := by decide
    have a3 : bits BinOp.and IntKind.i64 3 1 = 1 := by decide
    have a4 : bits BinOp.and IntKind.i64 4 1 = 0 := by decide
    have a5 : bits BinOp.and IntKind.i64 5 1 = 1 := by decide
    have a6 : bits BinOp.and IntKind.i64 6 1 = 0 := by decide
    have a7 : bits BinOp.and IntKind.i64 7 1 = 1 := by decide
    go_enter Tryd.func39, Tryd.ntmps39
    go_wp2_with fail
    go_region_with (go_at_call 51; refine (s_pending q _ _ _ _ H b _ (by first | exact HM.out | exact HM.out.keep (Below.refl _ _).drew) (by first | exact HV.out | exact HV.out.keep (Below.refl _ _).drew) HC.out).mono ?_; rintro e y ⟨rfl, by1⟩; rw [HPV.out]; have c2 := cell_keep by1 c2; have c7 := cell_keep by1 c7; have c0 := cell_keep by1 c0; have BY : Hid (Below w.heap.size w y) := (by first | exact by1 | exact on (Below.refl _ _).drew by1); clear by1)
    all_goals go_wp2_with fail
    all_goals
      go_loop [4] (fun i => ∃ j : Nat, j ≤ 0 ∧ i = .int .i64 j) (fun i => 3 - (intOf i).toNat)
      case atStart => exact ⟨0, Nat.zero_le _, rfl⟩
      case round =>
        obtain ⟨j, hj, rfl⟩ := hrel
        have ej : j = 0 := by omega
        rcases ej with rfl
        · go_wp2_with fail
          go_ret
          exact ⟨ret_i HE.out.symm, (by first | exact BY.out | exact BY.out.drew)⟩
  · have HE : Hid (dueV H = 1) := (due_some NE.out HB.out (by decide)).trans (by decide)
    have a0 : bits BinOp.and IntKind.i64 0 1 = 0 := by decide
    have a1 : bits BinOp.and IntKind.i64 1 1 = 1 := by decide
    have a2 : bits BinOp.and IntKind.i64 2 1 = 0 := by decide
    have a3 : bits BinOp.and IntKind.i64 3 1 = 1 := by decide
    have a4 : bits BinOp.and IntKind.i64 4 1 = 0 := by decide
    have a5 : bits BinOp.and IntKind.i64 5 1 = 1 := by decide
    have a6 : bits BinOp.and IntKind.i64 6 1 = 0 := by decide
    have a7 : bits BinOp.and IntKind.i64 7 1 = 1 := by decide
    go_enter Tryd.func39, Tryd.ntmps39
    go_wp2_with fail
    go_region_with (go_at_call 51; refine (s_pending q _ _ _ _ H b _ (by first | exact HM.out | exact HM.out.keep (Below.refl _ _).drew) (by first | exact HV.out | exact HV.out.keep (Below.refl _ _).drew) HC.out).mono ?_; rintro e y ⟨rfl, by1⟩; rw [HPV.out]; have c2 := cell_keep by1 c2; have c7 := cell_keep by1 c7; have c0 := cell_keep by1 c0; have BY : Hid (Below w.heap.size w y) := (by first | exact by1 | exact on (Below.refl _ _).drew by1); clear by1)
    all_goals go_wp2_with fail
    all_goals
      go_loop [4] (fun i => ∃ j : Nat, j ≤ 1 ∧ i = .int .i64 j) (fun i => 3 - (intOf i).toNat)
      case atStart => exact ⟨0, Nat.zero_le _, rfl⟩
      case round =>
        obtain ⟨j, hj, rfl⟩ := hrel
        have ej : j = 0 ∨ j = 1 := by omega
        rcases ej with rfl | rfl
        · go_wp2_with fail
          go_round
          case rel => exact ⟨1, by omega, by go_num⟩
          case measure => simp [intOf]
        · go_wp2_with fail
          go_ret
          exact ⟨ret_i HE.out.symm, (by first | exact BY.out | exact BY.out.drew)⟩
  · have HE : Hid (dueV H = 0) := (due_some NE.out HB.out (by decide)).trans (by decide)
    have a0 : bits BinOp.and IntKind.i64 0 1 = 0 := by decide
    have a1 : bits BinOp.and IntKind.i64 1 1 = 1 := by decide
    have a2 : bits BinOp.and IntKind.i64 2 1 = 0 := by decide
    have a3 : bits BinOp.and IntKind.i64 3 1 = 1 := by decide
    have a4 : bits BinOp.and IntKind.i64 4 1 = 0 := by decide
    have a5 : bits BinOp.and IntKind.i64 5 1 = 1 := by decide
    have a6 : bits BinOp.and IntKind.i64 6 1 = 0 := by decide
    have a7 : bits BinOp.and IntKind.i64 7 1 = 1 := by decide
    go_enter Tryd.func39, Tryd.ntmps39
    go_wp2_with fail
    go_region_with (go_at_call 51; refine (s_pending q _ _ _ _ H b _ (by first | exact HM.out | exact HM.out.keep (Below.refl _ _).drew) (by first | exact HV.out | exact HV.out.keep (Below.refl _ _).drew) HC.out).mono ?_; rintro e y ⟨rfl, by1⟩; rw [HPV.out]; have c2 := cell_keep by1 c2; have c7 := cell_keep by1 c7; have c0 := cell_keep by1 c0; have BY : Hid (Below w.heap.size w y) := (by first | exact by1 | exact on (Below.refl _ _).drew by1); clear by1)
    all_goals go_wp2_with fail
    all_goals
      go_loop [4] (fun i => ∃ j : Nat, j ≤ 0 ∧ i = .int .i64 j) (fun i => 3 - (intOf i).toNat)
      case atStart => exact ⟨0, Nat.zero_le _, rfl⟩
      case round =>
        obtain ⟨j, hj, rfl⟩ := hrel
        have ej : j = 0 := by omega
        rcases ej with rfl
        · go_wp2_with fail
          go_ret
          exact ⟨ret_i HE.out.symm, (by first | exact BY.out | exact BY.out.drew)⟩
end Go.Proofs.YtaajaikpkcgalaaDoor
