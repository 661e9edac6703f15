/- Texts of this seat, joined. -/
import Derived.Deep.CutRange
import Derived.Test.YtimcoobhakfnaaaGreatDoorQ12
import Derived.Test.YtimcoobhakfnaaaGreatDoorQ13
import Derived.Test.YtimcoobhakfnaaaGreatDoorQ24
import Derived.Test.YtimcoobhakfnaaaGreatDoorQ25
import Derived.Test.YtimcoobhakfnaaaGreatDoorQ46
import Derived.Test.YtimcoobhakfnaaaGreatDoorQ48
import Derived.Test.YtimcoobhakfnaaaGreatDoorQ50
namespace Go.Proofs.YtimcoobhakfnaaaGreatDoor
open Go.RowKit
set_option linter.unusedVariables false

set_option maxRecDepth 20000 in
set_option maxHeartbeats 8000000 in
theorem zd_12 {w : World} {B : Bp} {i o : Value} {zs : List Int} {H : Ht} (R : Bs w B i o zs H (-1) (-1)) (sn : Sn H B.ps zs B.p) (d a : Nat) (hd : d < 16) (ha : a < 16) (im : Int) (i0 : 0 ≤ im) (i6 : im ≤ 65535) :
    Calls Tryz.prog 44 #[.pointer (some ⟨B.q, 0, none⟩), .agg #[.int .i64 12, .int .i64 (d : Int), .int .i64 (a : Int), .int .i64 im]] w fun e w' => e = .returned (.bool true) ∧ ∃ i' o', Bs w' B i' o' zs { putV H d (addV (gt H.regs a) (offV im)) with pc := (addV H.pc 1) } (-1) (-1) ∧ Below B.base w w' := by
  have HR : Hid (Bs w B i o zs H (-1) (-1)) := R
  have SN : Hid (Sn H B.ps zs B.p) := sn
  have Rd : Hid (d < 16) := hd
  have Id : Hid ((d : Int) < 16) := by show _ < _; omega
  have Ra : Hid (a < 16) := ha
  have Ia : Hid ((a : Int) < 16) := by show _ < _; omega
  clear R sn
  go_enter Tryz.func44, Tryz.ntmps44
  go_upto_region 1 with fail
  generalize hW : w.alloc (.cells #[.int .i64 12, .int .i64 (d : Int), .int .i64 (a : Int), .int .i64 im] 76) = W1
  obtain ⟨n, hn⟩ : ∃ n, w.heap.size = n := ⟨_, rfl⟩
  rw [hn]
  have VN : Hid (Vb W1 n #[.int .i64 12, .int .i64 (d : Int), .int .i64 (a : Int), .int .i64 im] 76) := by show Vb _ _ _ _; rw [← hW, ← hn]; exact Vb.new _ _ _
  have bb : Below w.heap.size w W1 := by rw [← hW]; exact al (Below.refl _ _) _
  have R1 : Hid (Bs W1 B i o zs H (-1) (-1)) := HR.out.keep bb
  have B1 : Hid (Below B.base w W1) := bless bb HR.out.size
  have QN : Hid (n ≠ B.q ∧ n ≠ B.rg ∧ n ≠ B.cg ∧ n ≠ B.gm ∧ o.ownBlock ≠ some n) := by
    obtain ⟨bo, _, _, ho, _⟩ := HR.out.ho
    exact ⟨by have := HR.out.v.lt; omega, by have := (HR.out.hr.lt B.rg rfl).2; omega, by have := (HR.out.hc.lt B.cg rfl).2; omega, by have := (HR.out.hm.lt B.gm rfl).2; omega, fun e => by have := (ho.lt n e).2; omega⟩
  clear hW hn bb
  have c4 : W1.cell? ⟨B.q, 4, none⟩ = some (.int .i64 H.pc) := R1.out.v.cell 4 rfl
  have c3 : W1.cell? ⟨B.q, 3, none⟩ = some (.slice (some ⟨B.rg, 0, none⟩) 16 B.rk) := R1.out.v.cell 3 rfl
  have ca : W1.cell? ⟨B.rg, a, none⟩ = some (.int .i64 (gt H.regs a)) := R1.out.hr.cell R1.out.hr.len a Ra.out
  have n0 : W1.cell? ⟨n, 0, none⟩ = some (.int .i64 12) := VN.out.cell 0 rfl
  have n2 : W1.cell? ⟨n, 2, none⟩ = some (.int .i64 (a : Int)) := VN.out.cell 2 rfl
  have n3 : W1.cell? ⟨n, 3, none⟩ = some (.int .i64 im) := VN.out.cell 3 rfl
  have aI := Ia.out
  go_upto_region 3 with (go_at_call 65; refine (spec_add _ _ _).mono ?_; rintro e y ⟨rfl, hy⟩; rw [hy]; clear hy y)
  go_quiet (first | (go_at_call 66; exact Calls.quiet_of_same (z_off _ _)) | (go_at_call 65; exact Calls.quiet_of_same (spec_add _ _ _)))
  have R0 : Hid (Bs (W1.drewN nq) B i o zs H (-1) (-1)) := R1.out.keep (dr (Below.refl _ _) _)
  have V0 : Hid (Vb (W1.drewN nq) n #[.int .i64 12, .int .i64 (d : Int), .int .i64 (a : Int), .int .i64 im] 76) := VN.out
  have B0 : Hid (Below B.base w (W1.drewN nq)) := dr B1.out _
  clear R1 VN B1 c4 c3 ca n0 n2 n3 aI
  generalize W1.drewN nq = x0 at *
  have n0 : x0.cell? ⟨n, 0, none⟩ = some (.int .i64 12) := V0.out.cell 0 rfl
  go_upto_region 7 with fail
  clear n0
  have S0 : Hid (Vb x0.drew n #[.int .i64 12, .int .i64 (d : Int), .int .i64 (a : Int), .int .i64 im] 76 ∧ x0.drew.cell? ⟨B.q, 3, none⟩ = some (.slice (some ⟨B.rg, 0, none⟩) 16 B.rk) ∧ x0.drew.cell? ⟨B.q, 1, none⟩ = some (.slice (some ⟨B.gm, 0, none⟩) (B.p * 8) B.mc)) := ⟨V0.out, R0.out.v.cell 3 rfl, R0.out.v.cell 1 rfl⟩
  replace R0 := hid_dr R0
  replace B0 := hid_bd B0
  refine wp_region_held (S := fun w' => Vb w' n #[.int .i64 12, .int .i64 (d : Int), .int .i64 (a : Int), .int .i64 im] 76 ∧ w'.cell? ⟨B.q, 3, none⟩ = some (.slice (some ⟨B.rg, 0, none⟩) 16 B.rk) ∧ w'.cell? ⟨B.q, 1, none⟩ = some (.slice (some ⟨B.gm, 0, none⟩) (B.p * 8) B.mc)) (by kernel_rfl) ?_
  change wpAnyH _ _ _ _ _ _ _ _ (World.drew _)
  generalize x0.drew = x1 at *
  refine tk (i := 0) (v := .pointer (some ⟨B.q, 0, none⟩)) rfl (Or.inl ⟨by rfl, fun w' hs => by go_simp⟩) S0.out ?_
  change wpAnyH _ _ _ _ _ _ _ (Act.put _ (some 52) _) _
  simp only [Act.put, List.setIfInBounds_toArray, List.set_cons_zero, List.set_cons_succ]
  refine tk (i := 1) (v := .pointer (some ⟨n, 1, none⟩)) rfl (Or.inl ⟨by rfl, fun w' hs => by go_simp⟩) S0.out ?_
  change wpAnyH _ _ _ _ _ _ _ (Act.put _ (some 53) _) _
  simp only [Act.put, List.setIfInBounds_toArray, List.set_cons_zero, List.set_cons_succ]
  refine tk (i := 2) (v := .int .i64 (d : Int)) rfl (Or.inl ⟨by rfl, fun w' hs => by have hc := (hs.1.cell 1 rfl : w'.cell? ⟨n, 1, none⟩ = some (.int .i64 (d : Int))); go_simp⟩) S0.out ?_
  change wpAnyH _ _ _ _ _ _ _ (Act.put _ (some 54) _) _
  simp only [Act.put, List.setIfInBounds_toArray, List.set_cons_zero, List.set_cons_succ]
  refine tk (i := 3) (v := .pointer (some ⟨B.q, 3, none⟩)) rfl (Or.inl ⟨by rfl, fun w' hs => by go_simp⟩) S0.out ?_
  change wpAnyH _ _ _ _ _ _ _ (Act.put _ (some 55) _) _
  simp only [Act.put, List.setIfInBounds_toArray, List.set_cons_zero, List.set_cons_succ]
  refine tk (i := 4) (v := .pointer (some ⟨B.q, 3, none⟩)) rfl (Or.inl ⟨by rfl, fun w' hs => by go_simp⟩) S0.out ?_
  change wpAnyH _ _ _ _ _ _ _ (Act.put _ (some 56) _) _
  simp only [Act.put, List.setIfInBounds_toArray, List.set_cons_zero, List.set_cons_succ]
  refine tk (i := 5) (v := .pointer (some ⟨B.q, 3, none⟩)) rfl (Or.inl ⟨by rfl, fun w' hs => by go_simp⟩) S0.out ?_
  change wpAnyH _ _ _ _ _ _ _ (Act.put _ (some 57) _) _
  simp only [Act.put, List.setIfInBounds_toArray, List.set_cons_zero, List.set_cons_succ]
  refine tk (i := 6) (v := .slice (some ⟨B.rg, 0, none⟩) 16 B.rk) rfl (Or.inl ⟨by rfl, fun w' hs => by have hc := hs.2.1; go_simp⟩) S0.out ?_
  change wpAnyH _ _ _ _ _ _ _ (Act.put _ (some 58) _) _
  simp only [Act.put, List.setIfInBounds_toArray, List.set_cons_zero, List.set_cons_succ]
  refine tk (i := 7) (v := .pointer (some ⟨n, 2, none⟩)) rfl (Or.inl ⟨by rfl, fun w' hs => by go_simp⟩) S0.out ?_
  change wpAnyH _ _ _ _ _ _ _ (Act.put _ (some 59) _) _
  simp only [Act.put, List.setIfInBounds_toArray, List.set_cons_zero, List.set_cons_succ]
  refine tk (i := 8) (v := .int .i64 (a : Int)) rfl (Or.inl ⟨by rfl, fun w' hs => by have hc := (hs.1.cell 2 rfl : w'.cell? ⟨n, 2, none⟩ = some (.int .i64 (a : Int))); go_simp⟩) S0.out ?_
  change wpAnyH _ _ _ _ _ _ _ (Act.put _ (some 60) _) _
  simp only [Act.put, List.setIfInBounds_toArray, List.set_cons_zero, List.set_cons_succ]
  refine tk (i := 9) (v := .pointer (some ⟨B.rg, a, none⟩)) rfl (Or.inl ⟨by rfl, fun w' hs => by have h1 := Ia.out; have h2 := Ra.out; go_simp⟩) S0.out ?_
  change wpAnyH _ _ _ _ _ _ _ (Act.put _ (some 61) _) _
  simp only [Act.put, List.setIfInBounds_toArray, List.set_cons_zero, List.set_cons_succ]
  refine tk (i := 11) (v := .pointer (some ⟨n, 3, none⟩)) rfl (Or.inl ⟨by rfl, fun w' hs => by go_simp⟩) S0.out ?_
  change wpAnyH _ _ _ _ _ _ _ (Act.put _ (some 63) _) _
  simp only [Act.put, List.setIfInBounds_toArray, List.set_cons_zero, List.set_cons_succ]
  refine tk (i := 12) (v := .int .i64 im) rfl (Or.inl ⟨by rfl, fun w' hs => by have hc := (hs.1.cell 3 rfl : w'.cell? ⟨n, 3, none⟩ = some (.int .i64 im)); go_simp⟩) S0.out ?_
  change wpAnyH _ _ _ _ _ _ _ (Act.put _ (some 64) _) _
  simp only [Act.put, List.setIfInBounds_toArray, List.set_cons_zero, List.set_cons_succ]
  refine wpAnyH_ready (rs := [10, 13]) (by kernel_rfl) (by simp) ?_
  refine AllReadyH.cons rfl (fun K hK => ?_) ?_
  · rw [if_pos (by rfl)]
    have cl : x1.cell? ⟨B.rg, a, none⟩ = some (.int .i64 (gt H.regs a)) := R0.out.hr.cell R0.out.hr.len a Ra.out
    go_simp
    refine hK.out _ _ S0.out (fun _ => ?_)
    clear hK K cl
    refine wpAnyH_ready (rs := [13]) (by kernel_rfl) (by simp) ?_
    refine AllReadyH.cons rfl (fun K hK => ?_) AllReadyH.nil
    rw [if_pos (by rfl)]
    go_simp
    refine (z_off _ _).mono ?_
    rintro e y ⟨rfl, hy⟩
    rw [hy]
    clear hy y
    refine hK.out _ _ S0.out (fun _ => ?_)
    clear hK K
    refine wpAnyH_ready (rs := [14]) (by kernel_rfl) (by simp) ?_
    refine AllReadyH.cons rfl (fun K hK => ?_) AllReadyH.nil
    rw [if_pos (by rfl)]
    go_simp
    refine (spec_add _ _ _).mono ?_
    rintro e y ⟨rfl, hy⟩
    rw [hy]
    clear hy y
    refine hK.out _ _ S0.out (fun _ => ?_)
    clear hK K
    refine wpAnyH_ready (rs := [15]) (by kernel_rfl) (by simp) ?_
    refine AllReadyH.cons rfl (fun K hK => ?_) AllReadyH.nil
    rw [if_pos (by rfl)]
    go_simp
    refine (z_put R0.out d Rd.out (addV (gt H.regs a) (offV im))).mono ?_
    rintro e x2 ⟨rfl, ⟨r2, b2⟩, m2⟩
    have R2 : Hid (Bs x2 B i o zs (putV H d (addV (gt H.regs a) (offV im))) (-1) (-1)) := r2
    have B2 : Hid (Below B.base w x2) := B0.out.trans b2
    have S2 : Hid (Vb x2 n #[.int .i64 12, .int .i64 (d : Int), .int .i64 (a : Int), .int .i64 im] 76 ∧ x2.cell? ⟨B.q, 3, none⟩ = some (.slice (some ⟨B.rg, 0, none⟩) 16 B.rk) ∧ x2.cell? ⟨B.q, 1, none⟩ = some (.slice (some ⟨B.gm, 0, none⟩) (B.p * 8) B.mc)) := ⟨m2.vb S0.out.1 fun e => QN.out.2.1 e, R2.out.v.cell 3 rfl, R2.out.v.cell 1 rfl⟩
    clear r2 b2 m2
    refine hK.out _ _ S2.out (fun _ => ?_)
    clear hK K
    refine wpAnyH_done (by kernel_rfl) ?_ _
    have d4 : x2.cell? ⟨B.q, 4, none⟩ = some (.int .i64 (putV H d (addV (gt H.regs a) (offV im))).pc) := R2.out.v.cell 4 rfl
    have f4 := R2.out.v.free 4
    go_wp2_with fail
    go_ret
    have U := R2.out.fld (G := { putV H d (addV (gt H.regs a) (offV im)) with pc := (addV H.pc 1) }) (ri' := -1) (fa' := -1) 4 (.int .i64 (addV H.pc 1)) rfl rfl rfl rfl rfl
    first | exact ⟨rfl, _, _, U.1, B2.out.trans U.2⟩ | exact ⟨rfl, ⟨_, _, U.1⟩, B2.out.trans U.2⟩
  refine AllReadyH.cons rfl (fun K hK => ?_) AllReadyH.nil
  rw [if_pos (by rfl)]
  go_simp
  refine (z_off _ _).mono ?_
  rintro e y ⟨rfl, hy⟩
  rw [hy]
  clear hy y
  refine hK.out _ _ S0.out (fun _ => ?_)
  clear hK K
  refine wpAnyH_ready (rs := [10]) (by kernel_rfl) (by simp) ?_
  refine AllReadyH.cons rfl (fun K hK => ?_) AllReadyH.nil
  rw [if_pos (by rfl)]
  have cl : x1.cell? ⟨B.rg, a, none⟩ = some (.int .i64 (gt H.regs a)) := R0.out.hr.cell R0.out.hr.len a Ra.out
  go_simp
  refine hK.out _ _ S0.out (fun _ => ?_)
  clear hK K cl
  refine wpAnyH_ready (rs := [14]) (by kernel_rfl) (by simp) ?_
  refine AllReadyH.cons rfl (fun K hK => ?_) AllReadyH.nil
  rw [if_pos (by rfl)]
  go_simp
  refine (spec_add _ _ _).mono ?_
  rintro e y ⟨rfl, hy⟩
  rw [hy]
  clear hy y
  refine hK.out _ _ S0.out (fun _ => ?_)
  clear hK K
  refine wpAnyH_ready (rs := [15]) (by kernel_rfl) (by simp) ?_
  refine AllReadyH.cons rfl (fun K hK => ?_) AllReadyH.nil
  rw [if_pos (by rfl)]
  go_simp
  refine (z_put R0.out d Rd.out (addV (gt H.regs a) (offV im))).mono ?_
  rintro e x2 ⟨rfl, ⟨r2, b2⟩, m2⟩
  have R2 : Hid (Bs x2 B i o zs (putV H d (addV (gt H.regs a) (offV im))) (-1) (-1)) := r2
  have B2 : Hid (Below B.base w x2) := B0.out.trans b2
  have S2 : Hid (Vb x2 n #[.int .i64 12, .int .i64 (d : Int), .int .i64 (a : Int), .int .i64 im] 76 ∧ x2.cell? ⟨B.q, 3, none⟩ = some (.slice (some ⟨B.rg, 0, none⟩) 16 B.rk) ∧ x2.cell? ⟨B.q, 1, none⟩ = some (.slice (some ⟨B.gm, 0, none⟩) (B.p * 8) B.mc)) := ⟨m2.vb S0.out.1 fun e => QN.out.2.1 e, R2.out.v.cell 3 rfl, R2.out.v.cell 1 rfl⟩
  clear r2 b2 m2
  refine hK.out _ _ S2.out (fun _ => ?_)
  clear hK K
  refine wpAnyH_done (by kernel_rfl) ?_ _
  have d4 : x2.cell? ⟨B.q, 4, none⟩ = some (.int .i64 (putV H d (addV (gt H.regs a) (offV im))).pc) := R2.out.v.cell 4 rfl
  have f4 := R2.out.v.free 4
  go_wp2_with fail
  go_ret
  have U := R2.out.fld (G := { putV H d (addV (gt H.regs a) (offV im)) with pc := (addV H.pc 1) }) (ri' := -1) (fa' := -1) 4 (.int .i64 (addV H.pc 1)) rfl rfl rfl rfl rfl
  first | exact ⟨rfl, _, _, U.1, B2.out.trans U.2⟩ | exact ⟨rfl, ⟨_, _, U.1⟩, B2.out.trans U.2⟩
set_option maxRecDepth 20000 in
set_option maxHeartbeats 8000000 in
theorem zd_13 {w : World} {B : Bp} {i o : Value} {zs : List Int} {H : Ht} (R : Bs w B i o zs H (-1) (-1)) (sn : Sn H B.ps zs B.p) (d a : Nat) (hd : d < 16) (ha : a < 16) (im : Int) (i0 : 0 ≤ im) (i6 : im ≤ 65535) :
    Calls Tryz.prog 44 #[.pointer (some ⟨B.q, 0, none⟩), .agg #[.int .i64 13, .int .i64 (d : Int), .int .i64 (a : Int), .int .i64 im]] w fun e w' => e = .returned (.bool true) ∧ ∃ i' o', Bs w' B i' o' zs { putV H d (im * 65536) with pc := (addV H.pc 1) } (-1) (-1) ∧ Below B.base w w' := by
  have HR : Hid (Bs w B i o zs H (-1) (-1)) := R
  have SN : Hid (Sn H B.ps zs B.p) := sn
  have Rd : Hid (d < 16) := hd
  have Id : Hid ((d : Int) < 16) := by show _ < _; omega
  have Ra : Hid (a < 16) := ha
  have Ia : Hid ((a : Int) < 16) := by show _ < _; omega
  clear R sn
  go_enter Tryz.func44, Tryz.ntmps44
  go_upto_region 1 with fail
  generalize hW : w.alloc (.cells #[.int .i64 13, .int .i64 (d : Int), .int .i64 (a : Int), .int .i64 im] 76) = W1
  obtain ⟨n, hn⟩ : ∃ n, w.heap.size = n := ⟨_, rfl⟩
  rw [hn]
  have VN : Hid (Vb W1 n #[.int .i64 13, .int .i64 (d : Int), .int .i64 (a : Int), .int .i64 im] 76) := by show Vb _ _ _ _; rw [← hW, ← hn]; exact Vb.new _ _ _
  have bb : Below w.heap.size w W1 := by rw [← hW]; exact al (Below.refl _ _) _
  have R1 : Hid (Bs W1 B i o zs H (-1) (-1)) := HR.out.keep bb
  have B1 : Hid (Below B.base w W1) := bless bb HR.out.size
  have QN : Hid (n ≠ B.q ∧ n ≠ B.rg ∧ n ≠ B.cg ∧ n ≠ B.gm ∧ o.ownBlock ≠ some n) := by
    obtain ⟨bo, _, _, ho, _⟩ := HR.out.ho
    exact ⟨by have := HR.out.v.lt; omega, by have := (HR.out.hr.lt B.rg rfl).2; omega, by have := (HR.out.hc.lt B.cg rfl).2; omega, by have := (HR.out.hm.lt B.gm rfl).2; omega, fun e => by have := (ho.lt n e).2; omega⟩
  clear hW hn bb
  have c4 : W1.cell? ⟨B.q, 4, none⟩ = some (.int .i64 H.pc) := R1.out.v.cell 4 rfl
  have c3 : W1.cell? ⟨B.q, 3, none⟩ = some (.slice (some ⟨B.rg, 0, none⟩) 16 B.rk) := R1.out.v.cell 3 rfl
  have ca : W1.cell? ⟨B.rg, a, none⟩ = some (.int .i64 (gt H.regs a)) := R1.out.hr.cell R1.out.hr.len a Ra.out
  have n0 : W1.cell? ⟨n, 0, none⟩ = some (.int .i64 13) := VN.out.cell 0 rfl
  have n2 : W1.cell? ⟨n, 2, none⟩ = some (.int .i64 (a : Int)) := VN.out.cell 2 rfl
  have n3 : W1.cell? ⟨n, 3, none⟩ = some (.int .i64 im) := VN.out.cell 3 rfl
  have aI := Ia.out
  go_upto_region 3 with (go_at_call 65; refine (spec_add _ _ _).mono ?_; rintro e y ⟨rfl, hy⟩; rw [hy]; clear hy y)
  go_quiet (first | (go_at_call 66; exact Calls.quiet_of_same (z_off _ _)) | (go_at_call 65; exact Calls.quiet_of_same (spec_add _ _ _)))
  have R0 : Hid (Bs (W1.drewN nq) B i o zs H (-1) (-1)) := R1.out.keep (dr (Below.refl _ _) _)
  have V0 : Hid (Vb (W1.drewN nq) n #[.int .i64 13, .int .i64 (d : Int), .int .i64 (a : Int), .int .i64 im] 76) := VN.out
  have B0 : Hid (Below B.base w (W1.drewN nq)) := dr B1.out _
  clear R1 VN B1 c4 c3 ca n0 n2 n3 aI
  generalize W1.drewN nq = x0 at *
  have n1 : x0.cell? ⟨n, 1, none⟩ = some (.int .i64 (d : Int)) := V0.out.cell 1 rfl
  have n3 : x0.cell? ⟨n, 3, none⟩ = some (.int .i64 im) := V0.out.cell 3 rfl
  have n0 : x0.cell? ⟨n, 0, none⟩ = some (.int .i64 13) := V0.out.cell 0 rfl
  go_wp2_with fail
  refine (z_put R0.out d Rd.out (im * 65536)).mono ?_
  rintro e x2 ⟨rfl, ⟨r2, b2⟩, m2⟩
  have R2 : Hid (Bs x2 B i o zs (putV H d (im * 65536)) (-1) (-1)) := r2
  have B2 : Hid (Below B.base w x2) := B0.out.trans b2
  clear r2 b2 m2 n1 n3 n0
  have d4 : x2.cell? ⟨B.q, 4, none⟩ = some (.int .i64 (putV H d (im * 65536)).pc) := R2.out.v.cell 4 rfl
  have f4 := R2.out.v.free 4
  go_wp2_with fail
  go_ret
  have U := R2.out.fld (G := { putV H d (im * 65536) with pc := (addV H.pc 1) }) (ri' := -1) (fa' := -1) 4 (.int .i64 (addV H.pc 1)) rfl rfl rfl rfl rfl
  first | exact ⟨rfl, _, _, U.1, B2.out.trans U.2⟩ | exact ⟨rfl, ⟨_, _, U.1⟩, B2.out.trans U.2⟩
set_option maxRecDepth 20000 in
set_option maxHeartbeats 8000000 in
theorem zd_19 {w : World} {B : Bp} {i o : Value} {zs : List Int} {H : Ht} (R : Bs w B i o zs H (-1) (-1)) (sn : Sn H B.ps zs B.p) (d a : Nat) (hd : d < 16) (ha : a < 16) (im : Int) (i0 : 0 ≤ im) (i6 : im ≤ 65535) :
    Calls Tryz.prog 44 #[.pointer (some ⟨B.q, 0, none⟩), .agg #[.int .i64 19, .int .i64 (d : Int), .int .i64 (a : Int), .int .i64 im]] w fun e w' => e = .returned (.bool true) ∧ ∃ i' o', Bs w' B i' o' zs { putV H d (addV H.pc 1) with pc := (addV H.pc (offV im)) } (-1) (-1) ∧ Below B.base w w' := by
  have HR : Hid (Bs w B i o zs H (-1) (-1)) := R
  have SN : Hid (Sn H B.ps zs B.p) := sn
  have Rd : Hid (d < 16) := hd
  have Id : Hid ((d : Int) < 16) := by show _ < _; omega
  have Ra : Hid (a < 16) := ha
  have Ia : Hid ((a : Int) < 16) := by show _ < _; omega
  clear R sn
  go_enter Tryz.func44, Tryz.ntmps44
  go_upto_region 1 with fail
  generalize hW : w.alloc (.cells #[.int .i64 19, .int .i64 (d : Int), .int .i64 (a : Int), .int .i64 im] 76) = W1
  obtain ⟨n, hn⟩ : ∃ n, w.heap.size = n := ⟨_, rfl⟩
  rw [hn]
  have VN : Hid (Vb W1 n #[.int .i64 19, .int .i64 (d : Int), .int .i64 (a : Int), .int .i64 im] 76) := by show Vb _ _ _ _; rw [← hW, ← hn]; exact Vb.new _ _ _
  have bb : Below w.heap.size w W1 := by rw [← hW]; exact al (Below.refl _ _) _
  have R1 : Hid (Bs W1 B i o zs H (-1) (-1)) := HR.out.keep bb
  have B1 : Hid (Below B.base w W1) := bless bb HR.out.size
  have QN : Hid (n ≠ B.q ∧ n ≠ B.rg ∧ n ≠ B.cg ∧ n ≠ B.gm ∧ o.ownBlock ≠ some n) := by
    obtain ⟨bo, _, _, ho, _⟩ := HR.out.ho
    exact ⟨by have := HR.out.v.lt; omega, by have := (HR.out.hr.lt B.rg rfl).2; omega, by have := (HR.out.hc.lt B.cg rfl).2; omega, by have := (HR.out.hm.lt B.gm rfl).2; omega, fun e => by have := (ho.lt n e).2; omega⟩
  clear hW hn bb
  have c4 : W1.cell? ⟨B.q, 4, none⟩ = some (.int .i64 H.pc) := R1.out.v.cell 4 rfl
  have c3 : W1.cell? ⟨B.q, 3, none⟩ = some (.slice (some ⟨B.rg, 0, none⟩) 16 B.rk) := R1.out.v.cell 3 rfl
  have ca : W1.cell? ⟨B.rg, a, none⟩ = some (.int .i64 (gt H.regs a)) := R1.out.hr.cell R1.out.hr.len a Ra.out
  have n0 : W1.cell? ⟨n, 0, none⟩ = some (.int .i64 19) := VN.out.cell 0 rfl
  have n2 : W1.cell? ⟨n, 2, none⟩ = some (.int .i64 (a : Int)) := VN.out.cell 2 rfl
  have n3 : W1.cell? ⟨n, 3, none⟩ = some (.int .i64 im) := VN.out.cell 3 rfl
  have aI := Ia.out
  go_upto_region 3 with (go_at_call 65; refine (spec_add _ _ _).mono ?_; rintro e y ⟨rfl, hy⟩; rw [hy]; clear hy y)
  go_quiet (first | (go_at_call 66; exact Calls.quiet_of_same (z_off _ _)) | (go_at_call 65; exact Calls.quiet_of_same (spec_add _ _ _)))
  have R0 : Hid (Bs (W1.drewN nq) B i o zs H (-1) (-1)) := R1.out.keep (dr (Below.refl _ _) _)
  have V0 : Hid (Vb (W1.drewN nq) n #[.int .i64 19, .int .i64 (d : Int), .int .i64 (a : Int), .int .i64 im] 76) := VN.out
  have B0 : Hid (Below B.base w (W1.drewN nq)) := dr B1.out _
  clear R1 VN B1 c4 c3 ca n0 n2 n3 aI
  generalize W1.drewN nq = x0 at *
  have n1 : x0.cell? ⟨n, 1, none⟩ = some (.int .i64 (d : Int)) := V0.out.cell 1 rfl
  have n3 : x0.cell? ⟨n, 3, none⟩ = some (.int .i64 im) := V0.out.cell 3 rfl
  have n0 : x0.cell? ⟨n, 0, none⟩ = some (.int .i64 19) := V0.out.cell 0 rfl
  go_wp2_with fail
  refine (z_put R0.out d Rd.out (addV H.pc 1)).mono ?_
  rintro e x2 ⟨rfl, ⟨r2, b2⟩, m2⟩
  have R2 : Hid (Bs x2 B i o zs (putV H d (addV H.pc 1)) (-1) (-1)) := r2
  have B2 : Hid (Below B.base w x2) := B0.out.trans b2
  clear r2 b2 m2 n1 n3 n0
  have d4 : x2.cell? ⟨B.q, 4, none⟩ = some (.int .i64 (putV H d (addV H.pc 1)).pc) := R2.out.v.cell 4 rfl
  have f4 := R2.out.v.free 4
  go_wp2_with fail
  go_ret
  have U := R2.out.fld (G := { putV H d (addV H.pc 1) with pc := (addV H.pc (offV im)) }) (ri' := -1) (fa' := -1) 4 (.int .i64 (addV H.pc (offV im))) rfl rfl rfl rfl rfl
  first | exact ⟨rfl, _, _, U.1, B2.out.trans U.2⟩ | exact ⟨rfl, ⟨_, _, U.1⟩, B2.out.trans U.2⟩
set_option maxRecDepth 20000 in
set_option maxHeartbeats 8000000 in
theorem zd_20 {w : World} {B : Bp} {i o : Value} {zs : List Int} {H : Ht} (R : Bs w B i o zs H (-1) (-1)) (sn : Sn H B.ps zs B.p) (d a : Nat) (hd : d < 16) (ha : a < 16) (im : Int) (i0 : 0 ≤ im) (i6 : im ≤ 65535) :
    Calls Tryz.prog 44 #[.pointer (some ⟨B.q, 0, none⟩), .agg #[.int .i64 20, .int .i64 (d : Int), .int .i64 (a : Int), .int .i64 im]] w fun e w' => e = .returned (.bool true) ∧ ∃ i' o', Bs w' B i' o' zs { putV H d (addV H.pc 1) with pc := (addV (gt H.regs a) (offV im)) } (-1) (-1) ∧ Below B.base w w' := by
  have HR : Hid (Bs w B i o zs H (-1) (-1)) := R
  have SN : Hid (Sn H B.ps zs B.p) := sn
  have Rd : Hid (d < 16) := hd
  have Id : Hid ((d : Int) < 16) := by show _ < _; omega
  have Ra : Hid (a < 16) := ha
  have Ia : Hid ((a : Int) < 16) := by show _ < _; omega
  clear R sn
  go_enter Tryz.func44, Tryz.ntmps44
  go_upto_region 1 with fail
  generalize hW : w.alloc (.cells #[.int .i64 20, .int .i64 (d : Int), .int .i64 (a : Int), .int .i64 im] 76) = W1
  obtain ⟨n, hn⟩ : ∃ n, w.heap.size = n := ⟨_, rfl⟩
  rw [hn]
  have VN : Hid (Vb W1 n #[.int .i64 20, .int .i64 (d : Int), .int .i64 (a : Int), .int .i64 im] 76) := by show Vb _ _ _ _; rw [← hW, ← hn]; exact Vb.new _ _ _
  have bb : Below w.heap.size w W1 := by rw [← hW]; exact al (Below.refl _ _) _
  have R1 : Hid (Bs W1 B i o zs H (-1) (-1)) := HR.out.keep bb
  have B1 : Hid (Below B.base w W1) := bless bb HR.out.size
  have QN : Hid (n ≠ B.q ∧ n ≠ B.rg ∧ n ≠ B.cg ∧ n ≠ B.gm ∧ o.ownBlock ≠ some n) := by
    obtain ⟨bo, _, _, ho, _⟩ := HR.out.ho
    exact ⟨by have := HR.out.v.lt; omega, by have := (HR.out.hr.lt B.rg rfl).2; omega, by have := (HR.out.hc.lt B.cg rfl).2; omega, by have := (HR.out.hm.lt B.gm rfl).2; omega, fun e => by have := (ho.lt n e).2; omega⟩
  clear hW hn bb
  have c4 : W1.cell? ⟨B.q, 4, none⟩ = some (.int .i64 H.pc) := R1.out.v.cell 4 rfl
  have c3 : W1.cell? ⟨B.q, 3, none⟩ = some (.slice (some ⟨B.rg, 0, none⟩) 16 B.rk) := R1.out.v.cell 3 rfl
  have ca : W1.cell? ⟨B.rg, a, none⟩ = some (.int .i64 (gt H.regs a)) := R1.out.hr.cell R1.out.hr.len a Ra.out
  have n0 : W1.cell? ⟨n, 0, none⟩ = some (.int .i64 20) := VN.out.cell 0 rfl
  have n2 : W1.cell? ⟨n, 2, none⟩ = some (.int .i64 (a : Int)) := VN.out.cell 2 rfl
  have n3 : W1.cell? ⟨n, 3, none⟩ = some (.int .i64 im) := VN.out.cell 3 rfl
  have aI := Ia.out
  go_upto_region 3 with (go_at_call 65; refine (spec_add _ _ _).mono ?_; rintro e y ⟨rfl, hy⟩; rw [hy]; clear hy y)
  go_quiet (first | (go_at_call 66; exact Calls.quiet_of_same (z_off _ _)) | (go_at_call 65; exact Calls.quiet_of_same (spec_add _ _ _)))
  have R0 : Hid (Bs (W1.drewN nq) B i o zs H (-1) (-1)) := R1.out.keep (dr (Below.refl _ _) _)
  have V0 : Hid (Vb (W1.drewN nq) n #[.int .i64 20, .int .i64 (d : Int), .int .i64 (a : Int), .int .i64 im] 76) := VN.out
  have B0 : Hid (Below B.base w (W1.drewN nq)) := dr B1.out _
  clear R1 VN B1 c4 c3 ca n0 n2 n3 aI
  generalize W1.drewN nq = x0 at *
  have n0 : x0.cell? ⟨n, 0, none⟩ = some (.int .i64 20) := V0.out.cell 0 rfl
  have n2 : x0.cell? ⟨n, 2, none⟩ = some (.int .i64 (a : Int)) := V0.out.cell 2 rfl
  have n3 : x0.cell? ⟨n, 3, none⟩ = some (.int .i64 im) := V0.out.cell 3 rfl
  have c3 : x0.cell? ⟨B.q, 3, none⟩ = some (.slice (some ⟨B.rg, 0, none⟩) 16 B.rk) := R0.out.v.cell 3 rfl
  have ca : x0.cell? ⟨B.rg, a, none⟩ = some (.int .i64 (gt H.regs a)) := R0.out.hr.cell R0.out.hr.len a Ra.out
  have aI := Ia.out
  go_upto_region 23 with fail
  go_quiet (first | (go_at_call 66; exact Calls.quiet_of_same (z_off _ _)) | (go_at_call 65; exact Calls.quiet_of_same (spec_add _ _ _)))
  have R4 : Hid (Bs (x0.drewN nq) B i o zs H (-1) (-1)) := R0.out.keep (dr (Below.refl _ _) _)
  have V4 : Hid (Vb (x0.drewN nq) n #[.int .i64 20, .int .i64 (d : Int), .int .i64 (a : Int), .int .i64 im] 76) := V0.out
  have B4 : Hid (Below B.base w (x0.drewN nq)) := dr B0.out _
  clear n0 n2 n3 c3 ca aI R0 V0 B0
  generalize x0.drewN nq = x4 at *
  have n1 : x4.cell? ⟨n, 1, none⟩ = some (.int .i64 (d : Int)) := V4.out.cell 1 rfl
  go_wp2_with fail
  refine (z_put R4.out d Rd.out (addV H.pc 1)).mono ?_
  rintro e x2 ⟨rfl, ⟨r2, b2⟩, m2⟩
  have R2 : Hid (Bs x2 B i o zs (putV H d (addV H.pc 1)) (-1) (-1)) := r2
  have B2 : Hid (Below B.base w x2) := B4.out.trans b2
  clear r2 b2 m2 n1
  have d4 : x2.cell? ⟨B.q, 4, none⟩ = some (.int .i64 (putV H d (addV H.pc 1)).pc) := R2.out.v.cell 4 rfl
  have f4 := R2.out.v.free 4
  go_wp2_with fail
  go_ret
  have U := R2.out.fld (G := { putV H d (addV H.pc 1) with pc := (addV (gt H.regs a) (offV im)) }) (ri' := -1) (fa' := -1) 4 (.int .i64 (addV (gt H.regs a) (offV im))) rfl rfl rfl rfl rfl
  first | exact ⟨rfl, _, _, U.1, B2.out.trans U.2⟩ | exact ⟨rfl, ⟨_, _, U.1⟩, B2.out.trans U.2⟩
set_option maxRecDepth 20000 in
set_option maxHeartbeats 8000000 in
theorem zd_21 {w : World} {B : Bp} {i o : Value} {zs : List Int} {H : Ht} (R : Bs w B i o zs H (-1) (-1)) (sn : Sn H B.ps zs B.p) (d a : Nat) (hd : d < 16) (ha : a < 16) (im : Int) (i0 : 0 ≤ im) (i6 : im ≤ 65535) (i10 : im ≤ 10) :
    Calls Tryz.prog 44 #[.pointer (some ⟨B.q, 0, none⟩), .agg #[.int .i64 21, .int .i64 (d : Int), .int .i64 (a : Int), .int .i64 im]] w fun e w' => e = .returned (.bool true) ∧ ∃ i' o', Bs w' B i' o' zs { putV H d (getV H im) with pc := (addV H.pc 1) } (-1) (-1) ∧ Below B.base w w' := by
  have HR : Hid (Bs w B i o zs H (-1) (-1)) := R
  have SN : Hid (Sn H B.ps zs B.p) := sn
  have Rd : Hid (d < 16) := hd
  have Id : Hid ((d : Int) < 16) := by show _ < _; omega
  have Ra : Hid (a < 16) := ha
  have Ia : Hid ((a : Int) < 16) := by show _ < _; omega
  have Ii : Hid (0 ≤ im ∧ im ≤ 10) := ⟨i0, i10⟩
  clear R sn
  go_enter Tryz.func44, Tryz.ntmps44
  go_upto_region 1 with fail
  generalize hW : w.alloc (.cells #[.int .i64 21, .int .i64 (d : Int), .int .i64 (a : Int), .int .i64 im] 76) = W1
  obtain ⟨n, hn⟩ : ∃ n, w.heap.size = n := ⟨_, rfl⟩
  rw [hn]
  have VN : Hid (Vb W1 n #[.int .i64 21, .int .i64 (d : Int), .int .i64 (a : Int), .int .i64 im] 76) := by show Vb _ _ _ _; rw [← hW, ← hn]; exact Vb.new _ _ _
  have bb : Below w.heap.size w W1 := by rw [← hW]; exact al (Below.refl _ _) _
  have R1 : Hid (Bs W1 B i o zs H (-1) (-1)) := HR.out.keep bb
  have B1 : Hid (Below B.base w W1) := bless bb HR.out.size
  have QN : Hid (n ≠ B.q ∧ n ≠ B.rg ∧ n ≠ B.cg ∧ n ≠ B.gm ∧ o.ownBlock ≠ some n) := by
    obtain ⟨bo, _, _, ho, _⟩ := HR.out.ho
    exact ⟨by have := HR.out.v.lt; omega, by have := (HR.out.hr.lt B.rg rfl).2; omega, by have := (HR.out.hc.lt B.cg rfl).2; omega, by have := (HR.out.hm.lt B.gm rfl).2; omega, fun e => by have := (ho.lt n e).2; omega⟩
  clear hW hn bb
  have c4 : W1.cell? ⟨B.q, 4, none⟩ = some (.int .i64 H.pc) := R1.out.v.cell 4 rfl
  have c3 : W1.cell? ⟨B.q, 3, none⟩ = some (.slice (some ⟨B.rg, 0, none⟩) 16 B.rk) := R1.out.v.cell 3 rfl
  have ca : W1.cell? ⟨B.rg, a, none⟩ = some (.int .i64 (gt H.regs a)) := R1.out.hr.cell R1.out.hr.len a Ra.out
  have n0 : W1.cell? ⟨n, 0, none⟩ = some (.int .i64 21) := VN.out.cell 0 rfl
  have n2 : W1.cell? ⟨n, 2, none⟩ = some (.int .i64 (a : Int)) := VN.out.cell 2 rfl
  have n3 : W1.cell? ⟨n, 3, none⟩ = some (.int .i64 im) := VN.out.cell 3 rfl
  have aI := Ia.out
  go_upto_region 3 with (go_at_call 65; refine (spec_add _ _ _).mono ?_; rintro e y ⟨rfl, hy⟩; rw [hy]; clear hy y)
  go_quiet (first | (go_at_call 66; exact Calls.quiet_of_same (z_off _ _)) | (go_at_call 65; exact Calls.quiet_of_same (spec_add _ _ _)))
  have R0 : Hid (Bs (W1.drewN nq) B i o zs H (-1) (-1)) := R1.out.keep (dr (Below.refl _ _) _)
  have V0 : Hid (Vb (W1.drewN nq) n #[.int .i64 21, .int .i64 (d : Int), .int .i64 (a : Int), .int .i64 im] 76) := VN.out
  have B0 : Hid (Below B.base w (W1.drewN nq)) := dr B1.out _
  clear R1 VN B1 c4 c3 ca n0 n2 n3 aI
  generalize W1.drewN nq = x0 at *
  have n0 : x0.cell? ⟨n, 0, none⟩ = some (.int .i64 21) := V0.out.cell 0 rfl
  go_upto_region 27 with fail
  clear n0
  have S0 : Hid (Vb x0.drew n #[.int .i64 21, .int .i64 (d : Int), .int .i64 (a : Int), .int .i64 im] 76 ∧ x0.drew.cell? ⟨B.q, 3, none⟩ = some (.slice (some ⟨B.rg, 0, none⟩) 16 B.rk) ∧ x0.drew.cell? ⟨B.q, 1, none⟩ = some (.slice (some ⟨B.gm, 0, none⟩) (B.p * 8) B.mc)) := ⟨V0.out, R0.out.v.cell 3 rfl, R0.out.v.cell 1 rfl⟩
  replace R0 := hid_dr R0
  replace B0 := hid_bd B0
  refine wp_region_held (S := fun w' => Vb w' n #[.int .i64 21, .int .i64 (d : Int), .int .i64 (a : Int), .int .i64 im] 76 ∧ w'.cell? ⟨B.q, 3, none⟩ = some (.slice (some ⟨B.rg, 0, none⟩) 16 B.rk) ∧ w'.cell? ⟨B.q, 1, none⟩ = some (.slice (some ⟨B.gm, 0, none⟩) (B.p * 8) B.mc)) (by kernel_rfl) ?_
  change wpAnyH _ _ _ _ _ _ _ _ (World.drew _)
  generalize x0.drew = x1 at *
  refine tk (i := 0) (v := .pointer (some ⟨B.q, 0, none⟩)) rfl (Or.inl ⟨by rfl, fun w' hs => by go_simp⟩) S0.out ?_
  change wpAnyH _ _ _ _ _ _ _ (Act.put _ (some 122) _) _
  simp only [Act.put, List.setIfInBounds_toArray, List.set_cons_zero, List.set_cons_succ]
  refine tk (i := 1) (v := .pointer (some ⟨n, 1, none⟩)) rfl (Or.inl ⟨by rfl, fun w' hs => by go_simp⟩) S0.out ?_
  change wpAnyH _ _ _ _ _ _ _ (Act.put _ (some 123) _) _
  simp only [Act.put, List.setIfInBounds_toArray, List.set_cons_zero, List.set_cons_succ]
  refine tk (i := 2) (v := .int .i64 (d : Int)) rfl (Or.inl ⟨by rfl, fun w' hs => by have hc := (hs.1.cell 1 rfl : w'.cell? ⟨n, 1, none⟩ = some (.int .i64 (d : Int))); go_simp⟩) S0.out ?_
  change wpAnyH _ _ _ _ _ _ _ (Act.put _ (some 124) _) _
  simp only [Act.put, List.setIfInBounds_toArray, List.set_cons_zero, List.set_cons_succ]
  refine tk (i := 3) (v := .pointer (some ⟨B.q, 3, none⟩)) rfl (Or.inl ⟨by rfl, fun w' hs => by go_simp⟩) S0.out ?_
  change wpAnyH _ _ _ _ _ _ _ (Act.put _ (some 125) _) _
  simp only [Act.put, List.setIfInBounds_toArray, List.set_cons_zero, List.set_cons_succ]
  refine tk (i := 4) (v := .pointer (some ⟨n, 3, none⟩)) rfl (Or.inl ⟨by rfl, fun w' hs => by go_simp⟩) S0.out ?_
  change wpAnyH _ _ _ _ _ _ _ (Act.put _ (some 126) _) _
  simp only [Act.put, List.setIfInBounds_toArray, List.set_cons_zero, List.set_cons_succ]
  refine tk (i := 5) (v := .int .i64 im) rfl (Or.inl ⟨by rfl, fun w' hs => by have hc := (hs.1.cell 3 rfl : w'.cell? ⟨n, 3, none⟩ = some (.int .i64 im)); go_simp⟩) S0.out ?_
  change wpAnyH _ _ _ _ _ _ _ (Act.put _ (some 127) _) _
  simp only [Act.put, List.setIfInBounds_toArray, List.set_cons_zero, List.set_cons_succ]
  refine wpAnyH_ready (rs := [6]) (by kernel_rfl) (by simp) ?_
  refine AllReadyH.cons rfl (fun K hK => ?_) AllReadyH.nil
  rw [if_pos (by rfl)]
  go_simp
  refine (z_get R0.out im Ii.out.1 Ii.out.2).mono ?_
  rintro e x3 ⟨rfl, b3⟩
  have R3 : Hid (Bs x3 B i o zs H (-1) (-1)) := R0.out.keep b3
  have B3 : Hid (Below B.base w x3) := B0.out.trans (bless b3 R0.out.size)
  have S3 : Hid (Vb x3 n #[.int .i64 21, .int .i64 (d : Int), .int .i64 (a : Int), .int .i64 im] 76 ∧ x3.cell? ⟨B.q, 3, none⟩ = some (.slice (some ⟨B.rg, 0, none⟩) 16 B.rk) ∧ x3.cell? ⟨B.q, 1, none⟩ = some (.slice (some ⟨B.gm, 0, none⟩) (B.p * 8) B.mc)) := ⟨S0.out.1.keep b3, R3.out.v.cell 3 rfl, R3.out.v.cell 1 rfl⟩
  clear b3
  refine hK.out _ _ S3.out (fun _ => ?_)
  clear hK K
  refine wpAnyH_ready (rs := [7]) (by kernel_rfl) (by simp) ?_
  refine AllReadyH.cons rfl (fun K hK => ?_) AllReadyH.nil
  rw [if_pos (by rfl)]
  go_simp
  refine (z_put R3.out d Rd.out (getV H im)).mono ?_
  rintro e x2 ⟨rfl, ⟨r2, b2⟩, m2⟩
  have R2 : Hid (Bs x2 B i o zs (putV H d (getV H im)) (-1) (-1)) := r2
  have B2 : Hid (Below B.base w x2) := B3.out.trans b2
  have S2 : Hid (Vb x2 n #[.int .i64 21, .int .i64 (d : Int), .int .i64 (a : Int), .int .i64 im] 76 ∧ x2.cell? ⟨B.q, 3, none⟩ = some (.slice (some ⟨B.rg, 0, none⟩) 16 B.rk) ∧ x2.cell? ⟨B.q, 1, none⟩ = some (.slice (some ⟨B.gm, 0, none⟩) (B.p * 8) B.mc)) := ⟨m2.vb S3.out.1 fun e => QN.out.2.1 e, R2.out.v.cell 3 rfl, R2.out.v.cell 1 rfl⟩
  clear r2 b2 m2
  refine hK.out _ _ S2.out (fun _ => ?_)
  clear hK K
  refine wpAnyH_done (by kernel_rfl) ?_ _
  have d4 : x2.cell? ⟨B.q, 4, none⟩ = some (.int .i64 (putV H d (getV H im)).pc) := R2.out.v.cell 4 rfl
  have f4 := R2.out.v.free 4
  go_wp2_with fail
  go_ret
  have U := R2.out.fld (G := { putV H d (getV H im) with pc := (addV H.pc 1) }) (ri' := -1) (fa' := -1) 4 (.int .i64 (addV H.pc 1)) rfl rfl rfl rfl rfl
  first | exact ⟨rfl, _, _, U.1, B2.out.trans U.2⟩ | exact ⟨rfl, ⟨_, _, U.1⟩, B2.out.trans U.2⟩
set_option maxRecDepth 20000 in
set_option maxHeartbeats 8000000 in
theorem zd_22 {w : World} {B : Bp} {i o : Value} {zs : List Int} {H : Ht} (R : Bs w B i o zs H (-1) (-1)) (sn : Sn H B.ps zs B.p) (d a : Nat) (hd : d < 16) (ha : a < 16) (im : Int) (i0 : 0 ≤ im) (i6 : im ≤ 65535) (i10 : im ≤ 10) :
    Calls Tryz.prog 44 #[.pointer (some ⟨B.q, 0, none⟩), .agg #[.int .i64 22, .int .i64 (d : Int), .int .i64 (a : Int), .int .i64 im]] w fun e w' => e = .returned (.bool true) ∧ ∃ i' o', Bs w' B i' o' zs { setW H im (gt H.regs a) with pc := (addV H.pc 1) } (-1) (-1) ∧ Below B.base w w' := by
  have HR : Hid (Bs w B i o zs H (-1) (-1)) := R
  have SN : Hid (Sn H B.ps zs B.p) := sn
  have Rd : Hid (d < 16) := hd
  have Id : Hid ((d : Int) < 16) := by show _ < _; omega
  have Ra : Hid (a < 16) := ha
  have Ia : Hid ((a : Int) < 16) := by show _ < _; omega
  have Ii : Hid (0 ≤ im ∧ im ≤ 10) := ⟨i0, i10⟩
  have HD : Hid (setV H im (gt H.regs a) = setW H im (gt H.regs a)) := by show _ = _; rw [setW_wd, wd_id (isW_iff.1 (gt_isW sn.hok.rw a))]
  clear R sn
  go_enter Tryz.func44, Tryz.ntmps44
  go_upto_region 1 with fail
  generalize hW : w.alloc (.cells #[.int .i64 22, .int .i64 (d : Int), .int .i64 (a : Int), .int .i64 im] 76) = W1
  obtain ⟨n, hn⟩ : ∃ n, w.heap.size = n := ⟨_, rfl⟩
  rw [hn]
  have VN : Hid (Vb W1 n #[.int .i64 22, .int .i64 (d : Int), .int .i64 (a : Int), .int .i64 im] 76) := by show Vb _ _ _ _; rw [← hW, ← hn]; exact Vb.new _ _ _
  have bb : Below w.heap.size w W1 := by rw [← hW]; exact al (Below.refl _ _) _
  have R1 : Hid (Bs W1 B i o zs H (-1) (-1)) := HR.out.keep bb
  have B1 : Hid (Below B.base w W1) := bless bb HR.out.size
  have QN : Hid (n ≠ B.q ∧ n ≠ B.rg ∧ n ≠ B.cg ∧ n ≠ B.gm ∧ o.ownBlock ≠ some n) := by
    obtain ⟨bo, _, _, ho, _⟩ := HR.out.ho
    exact ⟨by have := HR.out.v.lt; omega, by have := (HR.out.hr.lt B.rg rfl).2; omega, by have := (HR.out.hc.lt B.cg rfl).2; omega, by have := (HR.out.hm.lt B.gm rfl).2; omega, fun e => by have := (ho.lt n e).2; omega⟩
  clear hW hn bb
  have c4 : W1.cell? ⟨B.q, 4, none⟩ = some (.int .i64 H.pc) := R1.out.v.cell 4 rfl
  have c3 : W1.cell? ⟨B.q, 3, none⟩ = some (.slice (some ⟨B.rg, 0, none⟩) 16 B.rk) := R1.out.v.cell 3 rfl
  have ca : W1.cell? ⟨B.rg, a, none⟩ = some (.int .i64 (gt H.regs a)) := R1.out.hr.cell R1.out.hr.len a Ra.out
  have n0 : W1.cell? ⟨n, 0, none⟩ = some (.int .i64 22) := VN.out.cell 0 rfl
  have n2 : W1.cell? ⟨n, 2, none⟩ = some (.int .i64 (a : Int)) := VN.out.cell 2 rfl
  have n3 : W1.cell? ⟨n, 3, none⟩ = some (.int .i64 im) := VN.out.cell 3 rfl
  have aI := Ia.out
  go_upto_region 3 with (go_at_call 65; refine (spec_add _ _ _).mono ?_; rintro e y ⟨rfl, hy⟩; rw [hy]; clear hy y)
  go_quiet (first | (go_at_call 66; exact Calls.quiet_of_same (z_off _ _)) | (go_at_call 65; exact Calls.quiet_of_same (spec_add _ _ _)))
  have R0 : Hid (Bs (W1.drewN nq) B i o zs H (-1) (-1)) := R1.out.keep (dr (Below.refl _ _) _)
  have V0 : Hid (Vb (W1.drewN nq) n #[.int .i64 22, .int .i64 (d : Int), .int .i64 (a : Int), .int .i64 im] 76) := VN.out
  have B0 : Hid (Below B.base w (W1.drewN nq)) := dr B1.out _
  clear R1 VN B1 c4 c3 ca n0 n2 n3 aI
  generalize W1.drewN nq = x0 at *
  have n0 : x0.cell? ⟨n, 0, none⟩ = some (.int .i64 22) := V0.out.cell 0 rfl
  go_upto_region 29 with fail
  clear n0
  have S0 : Hid (Vb x0.drew n #[.int .i64 22, .int .i64 (d : Int), .int .i64 (a : Int), .int .i64 im] 76 ∧ x0.drew.cell? ⟨B.q, 3, none⟩ = some (.slice (some ⟨B.rg, 0, none⟩) 16 B.rk) ∧ x0.drew.cell? ⟨B.q, 1, none⟩ = some (.slice (some ⟨B.gm, 0, none⟩) (B.p * 8) B.mc)) := ⟨V0.out, R0.out.v.cell 3 rfl, R0.out.v.cell 1 rfl⟩
  replace R0 := hid_dr R0
  replace B0 := hid_bd B0
  refine wp_region_held (S := fun w' => Vb w' n #[.int .i64 22, .int .i64 (d : Int), .int .i64 (a : Int), .int .i64 im] 76 ∧ w'.cell? ⟨B.q, 3, none⟩ = some (.slice (some ⟨B.rg, 0, none⟩) 16 B.rk) ∧ w'.cell? ⟨B.q, 1, none⟩ = some (.slice (some ⟨B.gm, 0, none⟩) (B.p * 8) B.mc)) (by kernel_rfl) ?_
  change wpAnyH _ _ _ _ _ _ _ _ (World.drew _)
  generalize x0.drew = x1 at *
  refine tk (i := 0) (v := .pointer (some ⟨B.q, 3, none⟩)) rfl (Or.inl ⟨by rfl, fun w' hs => by go_simp⟩) S0.out ?_
  change wpAnyH _ _ _ _ _ _ _ (Act.put _ (some 132) _) _
  simp only [Act.put, List.setIfInBounds_toArray, List.set_cons_zero, List.set_cons_succ]
  refine tk (i := 1) (v := .pointer (some ⟨n, 3, none⟩)) rfl (Or.inl ⟨by rfl, fun w' hs => by go_simp⟩) S0.out ?_
  change wpAnyH _ _ _ _ _ _ _ (Act.put _ (some 133) _) _
  simp only [Act.put, List.setIfInBounds_toArray, List.set_cons_zero, List.set_cons_succ]
  refine tk (i := 2) (v := .int .i64 im) rfl (Or.inl ⟨by rfl, fun w' hs => by have hc := (hs.1.cell 3 rfl : w'.cell? ⟨n, 3, none⟩ = some (.int .i64 im)); go_simp⟩) S0.out ?_
  change wpAnyH _ _ _ _ _ _ _ (Act.put _ (some 134) _) _
  simp only [Act.put, List.setIfInBounds_toArray, List.set_cons_zero, List.set_cons_succ]
  refine tk (i := 3) (v := .pointer (some ⟨B.q, 3, none⟩)) rfl (Or.inl ⟨by rfl, fun w' hs => by go_simp⟩) S0.out ?_
  change wpAnyH _ _ _ _ _ _ _ (Act.put _ (some 135) _) _
  simp only [Act.put, List.setIfInBounds_toArray, List.set_cons_zero, List.set_cons_succ]
  refine tk (i := 4) (v := .pointer (some ⟨B.q, 3, none⟩)) rfl (Or.inl ⟨by rfl, fun w' hs => by go_simp⟩) S0.out ?_
  change wpAnyH _ _ _ _ _ _ _ (Act.put _ (some 136) _) _
  simp only [Act.put, List.setIfInBounds_toArray, List.set_cons_zero, List.set_cons_succ]
  refine tk (i := 5) (v := .pointer (some ⟨B.q, 3, none⟩)) rfl (Or.inl ⟨by rfl, fun w' hs => by go_simp⟩) S0.out ?_
  change wpAnyH _ _ _ _ _ _ _ (Act.put _ (some 137) _) _
  simp only [Act.put, List.setIfInBounds_toArray, List.set_cons_zero, List.set_cons_succ]
  refine tk (i := 6) (v := .slice (some ⟨B.rg, 0, none⟩) 16 B.rk) rfl (Or.inl ⟨by rfl, fun w' hs => by have hc := hs.2.1; go_simp⟩) S0.out ?_
  change wpAnyH _ _ _ _ _ _ _ (Act.put _ (some 138) _) _
  simp only [Act.put, List.setIfInBounds_toArray, List.set_cons_zero, List.set_cons_succ]
  refine tk (i := 7) (v := .pointer (some ⟨n, 2, none⟩)) rfl (Or.inl ⟨by rfl, fun w' hs => by go_simp⟩) S0.out ?_
  change wpAnyH _ _ _ _ _ _ _ (Act.put _ (some 139) _) _
  simp only [Act.put, List.setIfInBounds_toArray, List.set_cons_zero, List.set_cons_succ]
  refine tk (i := 8) (v := .int .i64 (a : Int)) rfl (Or.inl ⟨by rfl, fun w' hs => by have hc := (hs.1.cell 2 rfl : w'.cell? ⟨n, 2, none⟩ = some (.int .i64 (a : Int))); go_simp⟩) S0.out ?_
  change wpAnyH _ _ _ _ _ _ _ (Act.put _ (some 140) _) _
  simp only [Act.put, List.setIfInBounds_toArray, List.set_cons_zero, List.set_cons_succ]
  refine tk (i := 9) (v := .pointer (some ⟨B.rg, a, none⟩)) rfl (Or.inl ⟨by rfl, fun w' hs => by have h1 := Ia.out; have h2 := Ra.out; go_simp⟩) S0.out ?_
  change wpAnyH _ _ _ _ _ _ _ (Act.put _ (some 141) _) _
  simp only [Act.put, List.setIfInBounds_toArray, List.set_cons_zero, List.set_cons_succ]
  refine wpAnyH_ready (rs := [10]) (by kernel_rfl) (by simp) ?_
  refine AllReadyH.cons rfl (fun K hK => ?_) AllReadyH.nil
  rw [if_pos (by rfl)]
  have cl : x1.cell? ⟨B.rg, a, none⟩ = some (.int .i64 (gt H.regs a)) := R0.out.hr.cell R0.out.hr.len a Ra.out
  go_simp
  refine hK.out _ _ S0.out (fun _ => ?_)
  clear hK K cl
  refine wpAnyH_ready (rs := [11]) (by kernel_rfl) (by simp) ?_
  refine AllReadyH.cons rfl (fun K hK => ?_) AllReadyH.nil
  rw [if_pos (by rfl)]
  go_simp
  refine (z_set R0.out SN.out.hok im (gt H.regs a) Ii.out.1 Ii.out.2).mono ?_
  rintro e x2 ⟨rfl, ⟨r2, b2⟩, m2⟩
  rw [HD.out] at r2
  have R2 : Hid (Bs x2 B i o zs (setW H im (gt H.regs a)) (-1) (-1)) := r2
  have B2 : Hid (Below B.base w x2) := B0.out.trans b2
  have S2 : Hid (Vb x2 n #[.int .i64 22, .int .i64 (d : Int), .int .i64 (a : Int), .int .i64 im] 76 ∧ x2.cell? ⟨B.q, 3, none⟩ = some (.slice (some ⟨B.rg, 0, none⟩) 16 B.rk) ∧ x2.cell? ⟨B.q, 1, none⟩ = some (.slice (some ⟨B.gm, 0, none⟩) (B.p * 8) B.mc)) := ⟨m2.vb S0.out.1 fun e => e.elim QN.out.1 QN.out.2.2.1, R2.out.v.cell 3 rfl, R2.out.v.cell 1 rfl⟩
  clear r2 b2 m2
  refine hK.out _ _ S2.out (fun _ => ?_)
  clear hK K
  refine wpAnyH_done (by kernel_rfl) ?_ _
  have d4 : x2.cell? ⟨B.q, 4, none⟩ = some (.int .i64 (setW H im (gt H.regs a)).pc) := R2.out.v.cell 4 rfl
  have f4 := R2.out.v.free 4
  go_wp2_with fail
  go_ret
  have U := R2.out.fld (G := { setW H im (gt H.regs a) with pc := (addV H.pc 1) }) (ri' := -1) (fa' := -1) 4 (.int .i64 (addV H.pc 1)) rfl rfl rfl rfl rfl
  first | exact ⟨rfl, _, _, U.1, B2.out.trans U.2⟩ | exact ⟨rfl, ⟨_, _, U.1⟩, B2.out.trans U.2⟩
set_option maxRecDepth 20000 in
set_option maxHeartbeats 8000000 in
theorem zd_16 {w : World} {B : Bp} {i o : Value} {zs : List Int} {H : Ht} (R : Bs w B i o zs H (-1) (-1)) (sn : Sn H B.ps zs B.p) (d a : Nat) (hd : d < 16) (ha : a < 16) (im : Int) (i0 : 0 ≤ im) (i6 : im ≤ 65535) :
    Calls Tryz.prog 44 #[.pointer (some ⟨B.q, 0, none⟩), .agg #[.int .i64 16, .int .i64 (d : Int), .int .i64 (a : Int), .int .i64 im]] w fun e w' => e = .returned (.bool true) ∧ ∃ i' o', Bs w' B i' o' zs { H with pc := (brV (tkV H 16 d a) (addV H.pc (offV im)) (addV H.pc 1)) } (-1) (-1) ∧ Below B.base w w' := by
  have HR : Hid (Bs w B i o zs H (-1) (-1)) := R
  have SN : Hid (Sn H B.ps zs B.p) := sn
  have Rd : Hid (d < 16) := hd
  have Id : Hid ((d : Int) < 16) := by show _ < _; omega
  have Ra : Hid (a < 16) := ha
  have Ia : Hid ((a : Int) < 16) := by show _ < _; omega
  clear R sn
  go_enter Tryz.func44, Tryz.ntmps44
  go_upto_region 1 with fail
  generalize hW : w.alloc (.cells #[.int .i64 16, .int .i64 (d : Int), .int .i64 (a : Int), .int .i64 im] 76) = W1
  obtain ⟨n, hn⟩ : ∃ n, w.heap.size = n := ⟨_, rfl⟩
  rw [hn]
  have VN : Hid (Vb W1 n #[.int .i64 16, .int .i64 (d : Int), .int .i64 (a : Int), .int .i64 im] 76) := by show Vb _ _ _ _; rw [← hW, ← hn]; exact Vb.new _ _ _
  have bb : Below w.heap.size w W1 := by rw [← hW]; exact al (Below.refl _ _) _
  have R1 : Hid (Bs W1 B i o zs H (-1) (-1)) := HR.out.keep bb
  have B1 : Hid (Below B.base w W1) := bless bb HR.out.size
  have QN : Hid (n ≠ B.q ∧ n ≠ B.rg ∧ n ≠ B.cg ∧ n ≠ B.gm ∧ o.ownBlock ≠ some n) := by
    obtain ⟨bo, _, _, ho, _⟩ := HR.out.ho
    exact ⟨by have := HR.out.v.lt; omega, by have := (HR.out.hr.lt B.rg rfl).2; omega, by have := (HR.out.hc.lt B.cg rfl).2; omega, by have := (HR.out.hm.lt B.gm rfl).2; omega, fun e => by have := (ho.lt n e).2; omega⟩
  clear hW hn bb
  have c4 : W1.cell? ⟨B.q, 4, none⟩ = some (.int .i64 H.pc) := R1.out.v.cell 4 rfl
  have c3 : W1.cell? ⟨B.q, 3, none⟩ = some (.slice (some ⟨B.rg, 0, none⟩) 16 B.rk) := R1.out.v.cell 3 rfl
  have ca : W1.cell? ⟨B.rg, a, none⟩ = some (.int .i64 (gt H.regs a)) := R1.out.hr.cell R1.out.hr.len a Ra.out
  have n0 : W1.cell? ⟨n, 0, none⟩ = some (.int .i64 16) := VN.out.cell 0 rfl
  have n2 : W1.cell? ⟨n, 2, none⟩ = some (.int .i64 (a : Int)) := VN.out.cell 2 rfl
  have n3 : W1.cell? ⟨n, 3, none⟩ = some (.int .i64 im) := VN.out.cell 3 rfl
  have aI := Ia.out
  go_upto_region 3 with (go_at_call 65; refine (spec_add _ _ _).mono ?_; rintro e y ⟨rfl, hy⟩; rw [hy]; clear hy y)
  go_quiet (first | (go_at_call 66; exact Calls.quiet_of_same (z_off _ _)) | (go_at_call 65; exact Calls.quiet_of_same (spec_add _ _ _)))
  have R0 : Hid (Bs (W1.drewN nq) B i o zs H (-1) (-1)) := R1.out.keep (dr (Below.refl _ _) _)
  have V0 : Hid (Vb (W1.drewN nq) n #[.int .i64 16, .int .i64 (d : Int), .int .i64 (a : Int), .int .i64 im] 76) := VN.out
  have B0 : Hid (Below B.base w (W1.drewN nq)) := dr B1.out _
  clear R1 VN B1 c4 c3 ca n0 n2 n3 aI
  generalize W1.drewN nq = x0 at *
  have n0 : x0.cell? ⟨n, 0, none⟩ = some (.int .i64 16) := V0.out.cell 0 rfl
  have n1 : x0.cell? ⟨n, 1, none⟩ = some (.int .i64 (d : Int)) := V0.out.cell 1 rfl
  have n2 : x0.cell? ⟨n, 2, none⟩ = some (.int .i64 (a : Int)) := V0.out.cell 2 rfl
  have n3 : x0.cell? ⟨n, 3, none⟩ = some (.int .i64 im) := V0.out.cell 3 rfl
  go_upto_region 17 with fail
  go_wp2_with fail
  refine (z_taken R0.out 16 d a Rd.out Ra.out im (by decide)).mono ?_
  rintro e x2 ⟨rfl, b2⟩
  have R2 : Hid (Bs x2 B i o zs H (-1) (-1)) := R0.out.keep b2
  have B2 : Hid (Below B.base w x2) := B0.out.trans (bless b2 R0.out.size)
  clear b2 n0 n1 n2 n3
  have d4 := R2.out.v.cell 4 rfl
  have f4 := R2.out.v.free 4
  cases htk : tkV H 16 d a with
  | true =>
    go_wp2_with fail
    go_ret
    have U := R2.out.fld (G := { H with pc := (addV H.pc (offV im)) }) (ri' := -1) (fa' := -1) 4 (.int .i64 (addV H.pc (offV im))) rfl rfl rfl rfl rfl
    exact ⟨rfl, _, _, by rw [htk]; exact U.1, B2.out.trans U.2⟩
  | false =>
    go_wp2_with fail
    go_ret
    have U := R2.out.fld (G := { H with pc := (addV H.pc 1) }) (ri' := -1) (fa' := -1) 4 (.int .i64 (addV H.pc 1)) rfl rfl rfl rfl rfl
    exact ⟨rfl, _, _, by rw [htk]; exact U.1, B2.out.trans U.2⟩
set_option maxRecDepth 20000 in
set_option maxHeartbeats 8000000 in
theorem zd_17 {w : World} {B : Bp} {i o : Value} {zs : List Int} {H : Ht} (R : Bs w B i o zs H (-1) (-1)) (sn : Sn H B.ps zs B.p) (d a : Nat) (hd : d < 16) (ha : a < 16) (im : Int) (i0 : 0 ≤ im) (i6 : im ≤ 65535) :
    Calls Tryz.prog 44 #[.pointer (some ⟨B.q, 0, none⟩), .agg #[.int .i64 17, .int .i64 (d : Int), .int .i64 (a : Int), .int .i64 im]] w fun e w' => e = .returned (.bool true) ∧ ∃ i' o', Bs w' B i' o' zs { H with pc := (brV (tkV H 17 d a) (addV H.pc (offV im)) (addV H.pc 1)) } (-1) (-1) ∧ Below B.base w w' := by
  have HR : Hid (Bs w B i o zs H (-1) (-1)) := R
  have SN : Hid (Sn H B.ps zs B.p) := sn
  have Rd : Hid (d < 16) := hd
  have Id : Hid ((d : Int) < 16) := by show _ < _; omega
  have Ra : Hid (a < 16) := ha
  have Ia : Hid ((a : Int) < 16) := by show _ < _; omega
  clear R sn
  go_enter Tryz.func44, Tryz.ntmps44
  go_upto_region 1 with fail
  generalize hW : w.alloc (.cells #[.int .i64 17, .int .i64 (d : Int), .int .i64 (a : Int), .int .i64 im] 76) = W1
  obtain ⟨n, hn⟩ : ∃ n, w.heap.size = n := ⟨_, rfl⟩
  rw [hn]
  have VN : Hid (Vb W1 n #[.int .i64 17, .int .i64 (d : Int), .int .i64 (a : Int), .int .i64 im] 76) := by show Vb _ _ _ _; rw [← hW, ← hn]; exact Vb.new _ _ _
  have bb : Below w.heap.size w W1 := by rw [← hW]; exact al (Below.refl _ _) _
  have R1 : Hid (Bs W1 B i o zs H (-1) (-1)) := HR.out.keep bb
  have B1 : Hid (Below B.base w W1) := bless bb HR.out.size
  have QN : Hid (n ≠ B.q ∧ n ≠ B.rg ∧ n ≠ B.cg ∧ n ≠ B.gm ∧ o.ownBlock ≠ some n) := by
    obtain ⟨bo, _, _, ho, _⟩ := HR.out.ho
    exact ⟨by have := HR.out.v.lt; omega, by have := (HR.out.hr.lt B.rg rfl).2; omega, by have := (HR.out.hc.lt B.cg rfl).2; omega, by have := (HR.out.hm.lt B.gm rfl).2; omega, fun e => by have := (ho.lt n e).2; omega⟩
  clear hW hn bb
  have c4 : W1.cell? ⟨B.q, 4, none⟩ = some (.int .i64 H.pc) := R1.out.v.cell 4 rfl
  have c3 : W1.cell? ⟨B.q, 3, none⟩ = some (.slice (some ⟨B.rg, 0, none⟩) 16 B.rk) := R1.out.v.cell 3 rfl
  have ca : W1.cell? ⟨B.rg, a, none⟩ = some (.int .i64 (gt H.regs a)) := R1.out.hr.cell R1.out.hr.len a Ra.out
  have n0 : W1.cell? ⟨n, 0, none⟩ = some (.int .i64 17) := VN.out.cell 0 rfl
  have n2 : W1.cell? ⟨n, 2, none⟩ = some (.int .i64 (a : Int)) := VN.out.cell 2 rfl
  have n3 : W1.cell? ⟨n, 3, none⟩ = some (.int .i64 im) := VN.out.cell 3 rfl
  have aI := Ia.out
  go_upto_region 3 with (go_at_call 65; refine (spec_add _ _ _).mono ?_; rintro e y ⟨rfl, hy⟩; rw [hy]; clear hy y)
  go_quiet (first | (go_at_call 66; exact Calls.quiet_of_same (z_off _ _)) | (go_at_call 65; exact Calls.quiet_of_same (spec_add _ _ _)))
  have R0 : Hid (Bs (W1.drewN nq) B i o zs H (-1) (-1)) := R1.out.keep (dr (Below.refl _ _) _)
  have V0 : Hid (Vb (W1.drewN nq) n #[.int .i64 17, .int .i64 (d : Int), .int .i64 (a : Int), .int .i64 im] 76) := VN.out
  have B0 : Hid (Below B.base w (W1.drewN nq)) := dr B1.out _
  clear R1 VN B1 c4 c3 ca n0 n2 n3 aI
  generalize W1.drewN nq = x0 at *
  have n0 : x0.cell? ⟨n, 0, none⟩ = some (.int .i64 17) := V0.out.cell 0 rfl
  have n1 : x0.cell? ⟨n, 1, none⟩ = some (.int .i64 (d : Int)) := V0.out.cell 1 rfl
  have n2 : x0.cell? ⟨n, 2, none⟩ = some (.int .i64 (a : Int)) := V0.out.cell 2 rfl
  have n3 : x0.cell? ⟨n, 3, none⟩ = some (.int .i64 im) := V0.out.cell 3 rfl
  go_upto_region 17 with fail
  go_wp2_with fail
  refine (z_taken R0.out 17 d a Rd.out Ra.out im (by decide)).mono ?_
  rintro e x2 ⟨rfl, b2⟩
  have R2 : Hid (Bs x2 B i o zs H (-1) (-1)) := R0.out.keep b2
  have B2 : Hid (Below B.base w x2) := B0.out.trans (bless b2 R0.out.size)
  clear b2 n0 n1 n2 n3
  have d4 := R2.out.v.cell 4 rfl
  have f4 := R2.out.v.free 4
  cases htk : tkV H 17 d a with
  | true =>
    go_wp2_with fail
    go_ret
    have U := R2.out.fld (G := { H with pc := (addV H.pc (offV im)) }) (ri' := -1) (fa' := -1) 4 (.int .i64 (addV H.pc (offV im))) rfl rfl rfl rfl rfl
    exact ⟨rfl, _, _, by rw [htk]; exact U.1, B2.out.trans U.2⟩
  | false =>
    go_wp2_with fail
    go_ret
    have U := R2.out.fld (G := { H with pc := (addV H.pc 1) }) (ri' := -1) (fa' := -1) 4 (.int .i64 (addV H.pc 1)) rfl rfl rfl rfl rfl
    exact ⟨rfl, _, _, by rw [htk]; exact U.1, B2.out.trans U.2⟩
set_option maxRecDepth 20000 in
set_option maxHeartbeats 8000000 in
theorem zd_18 {w : World} {B : Bp} {i o : Value} {zs : List Int} {H : Ht} (R : Bs w B i o zs H (-1) (-1)) (sn : Sn H B.ps zs B.p) (d a : Nat) (hd : d < 16) (ha : a < 16) (im : Int) (i0 : 0 ≤ im) (i6 : im ≤ 65535) :
    Calls Tryz.prog 44 #[.pointer (some ⟨B.q, 0, none⟩), .agg #[.int .i64 18, .int .i64 (d : Int), .int .i64 (a : Int), .int .i64 im]] w fun e w' => e = .returned (.bool true) ∧ ∃ i' o', Bs w' B i' o' zs { H with pc := (brV (tkV H 18 d a) (addV H.pc (offV im)) (addV H.pc 1)) } (-1) (-1) ∧ Below B.base w w' := by
  have HR : Hid (Bs w B i o zs H (-1) (-1)) := R
  have SN : Hid (Sn H B.ps zs B.p) := sn
  have Rd : Hid (d < 16) := hd
  have Id : Hid ((d : Int) < 16) := by show _ < _; omega
  have Ra : Hid (a < 16) := ha
  have Ia : Hid ((a : Int) < 16) := by show _ < _; omega
  clear R sn
  go_enter Tryz.func44, Tryz.ntmps44
  go_upto_region 1 with fail
  generalize hW : w.alloc (.cells #[.int .i64 18, .int .i64 (d : Int), .int .i64 (a : Int), .int .i64 im] 76) = W1
  obtain ⟨n, hn⟩ : ∃ n, w.heap.size = n := ⟨_, rfl⟩
  rw [hn]
  have VN : Hid (Vb W1 n #[.int .i64 18, .int .i64 (d : Int), .int .i64 (a : Int), .int .i64 im] 76) := by show Vb _ _ _ _; rw [← hW, ← hn]; exact Vb.new _ _ _
  have bb : Below w.heap.size w W1 := by rw [← hW]; exact al (Below.refl _ _) _
  have R1 : Hid (Bs W1 B i o zs H (-1) (-1)) := HR.out.keep bb
  have B1 : Hid (Below B.base w W1) := bless bb HR.out.size
  have QN : Hid (n ≠ B.q ∧ n ≠ B.rg ∧ n ≠ B.cg ∧ n ≠ B.gm ∧ o.ownBlock ≠ some n) := by
    obtain ⟨bo, _, _, ho, _⟩ := HR.out.ho
    exact ⟨by have := HR.out.v.lt; omega, by have := (HR.out.hr.lt B.rg rfl).2; omega, by have := (HR.out.hc.lt B.cg rfl).2; omega, by have := (HR.out.hm.lt B.gm rfl).2; omega, fun e => by have := (ho.lt n e).2; omega⟩
  clear hW hn bb
  have c4 : W1.cell? ⟨B.q, 4, none⟩ = some (.int .i64 H.pc) := R1.out.v.cell 4 rfl
  have c3 : W1.cell? ⟨B.q, 3, none⟩ = some (.slice (some ⟨B.rg, 0, none⟩) 16 B.rk) := R1.out.v.cell 3 rfl
  have ca : W1.cell? ⟨B.rg, a, none⟩ = some (.int .i64 (gt H.regs a)) := R1.out.hr.cell R1.out.hr.len a Ra.out
  have n0 : W1.cell? ⟨n, 0, none⟩ = some (.int .i64 18) := VN.out.cell 0 rfl
  have n2 : W1.cell? ⟨n, 2, none⟩ = some (.int .i64 (a : Int)) := VN.out.cell 2 rfl
  have n3 : W1.cell? ⟨n, 3, none⟩ = some (.int .i64 im) := VN.out.cell 3 rfl
  have aI := Ia.out
  go_upto_region 3 with (go_at_call 65; refine (spec_add _ _ _).mono ?_; rintro e y ⟨rfl, hy⟩; rw [hy]; clear hy y)
  go_quiet (first | (go_at_call 66; exact Calls.quiet_of_same (z_off _ _)) | (go_at_call 65; exact Calls.quiet_of_same (spec_add _ _ _)))
  have R0 : Hid (Bs (W1.drewN nq) B i o zs H (-1) (-1)) := R1.out.keep (dr (Below.refl _ _) _)
  have V0 : Hid (Vb (W1.drewN nq) n #[.int .i64 18, .int .i64 (d : Int), .int .i64 (a : Int), .int .i64 im] 76) := VN.out
  have B0 : Hid (Below B.base w (W1.drewN nq)) := dr B1.out _
  clear R1 VN B1 c4 c3 ca n0 n2 n3 aI
  generalize W1.drewN nq = x0 at *
  have n0 : x0.cell? ⟨n, 0, none⟩ = some (.int .i64 18) := V0.out.cell 0 rfl
  have n1 : x0.cell? ⟨n, 1, none⟩ = some (.int .i64 (d : Int)) := V0.out.cell 1 rfl
  have n2 : x0.cell? ⟨n, 2, none⟩ = some (.int .i64 (a : Int)) := V0.out.cell 2 rfl
  have n3 : x0.cell? ⟨n, 3, none⟩ = some (.int .i64 im) := V0.out.cell 3 rfl
  go_upto_region 17 with fail
  go_wp2_with fail
  refine (z_taken R0.out 18 d a Rd.out Ra.out im (by decide)).mono ?_
  rintro e x2 ⟨rfl, b2⟩
  have R2 : Hid (Bs x2 B i o zs H (-1) (-1)) := R0.out.keep b2
  have B2 : Hid (Below B.base w x2) := B0.out.trans (bless b2 R0.out.size)
  clear b2 n0 n1 n2 n3
  have d4 := R2.out.v.cell 4 rfl
  have f4 := R2.out.v.free 4
  cases htk : tkV H 18 d a with
  | true =>
    go_wp2_with fail
    go_ret
    have U := R2.out.fld (G := { H with pc := (addV H.pc (offV im)) }) (ri' := -1) (fa' := -1) 4 (.int .i64 (addV H.pc (offV im))) rfl rfl rfl rfl rfl
    exact ⟨rfl, _, _, by rw [htk]; exact U.1, B2.out.trans U.2⟩
  | false =>
    go_wp2_with fail
    go_ret
    have U := R2.out.fld (G := { H with pc := (addV H.pc 1) }) (ri' := -1) (fa' := -1) 4 (.int .i64 (addV H.pc 1)) rfl rfl rfl rfl rfl
    exact ⟨rfl, _, _, by rw [htk]; exact U.1, B2.out.trans U.2⟩
set_option maxRecDepth 20000 in
set_option maxHeartbeats 8000000 in
theorem zd_23 {w : World} {B : Bp} {i o : Value} {zs : List Int} {H : Ht} (R : Bs w B i o zs H (-1) (-1)) (sn : Sn H B.ps zs B.p) (d a : Nat) (hd : d < 16) (ha : a < 16) (im : Int) (i0 : 0 ≤ im) (i6 : im ≤ 65535) :
    Calls Tryz.prog 44 #[.pointer (some ⟨B.q, 0, none⟩), .agg #[.int .i64 23, .int .i64 (d : Int), .int .i64 (a : Int), .int .i64 im]] w fun e w' => e = .returned (.bool false) ∧ ∃ i' o', Bs w' B i' o' zs (trapV H 5 0) (-1) 5 ∧ Below B.base w w' := by
  have HR : Hid (Bs w B i o zs H (-1) (-1)) := R
  have SN : Hid (Sn H B.ps zs B.p) := sn
  have Rd : Hid (d < 16) := hd
  have Id : Hid ((d : Int) < 16) := by show _ < _; omega
  have Ra : Hid (a < 16) := ha
  have Ia : Hid ((a : Int) < 16) := by show _ < _; omega
  clear R sn
  go_enter Tryz.func44, Tryz.ntmps44
  go_upto_region 1 with fail
  generalize hW : w.alloc (.cells #[.int .i64 23, .int .i64 (d : Int), .int .i64 (a : Int), .int .i64 im] 76) = W1
  obtain ⟨n, hn⟩ : ∃ n, w.heap.size = n := ⟨_, rfl⟩
  rw [hn]
  have VN : Hid (Vb W1 n #[.int .i64 23, .int .i64 (d : Int), .int .i64 (a : Int), .int .i64 im] 76) := by show Vb _ _ _ _; rw [← hW, ← hn]; exact Vb.new _ _ _
  have bb : Below w.heap.size w W1 := by rw [← hW]; exact al (Below.refl _ _) _
  have R1 : Hid (Bs W1 B i o zs H (-1) (-1)) := HR.out.keep bb
  have B1 : Hid (Below B.base w W1) := bless bb HR.out.size
  have QN : Hid (n ≠ B.q ∧ n ≠ B.rg ∧ n ≠ B.cg ∧ n ≠ B.gm ∧ o.ownBlock ≠ some n) := by
    obtain ⟨bo, _, _, ho, _⟩ := HR.out.ho
    exact ⟨by have := HR.out.v.lt; omega, by have := (HR.out.hr.lt B.rg rfl).2; omega, by have := (HR.out.hc.lt B.cg rfl).2; omega, by have := (HR.out.hm.lt B.gm rfl).2; omega, fun e => by have := (ho.lt n e).2; omega⟩
  clear hW hn bb
  have c4 : W1.cell? ⟨B.q, 4, none⟩ = some (.int .i64 H.pc) := R1.out.v.cell 4 rfl
  have c3 : W1.cell? ⟨B.q, 3, none⟩ = some (.slice (some ⟨B.rg, 0, none⟩) 16 B.rk) := R1.out.v.cell 3 rfl
  have ca : W1.cell? ⟨B.rg, a, none⟩ = some (.int .i64 (gt H.regs a)) := R1.out.hr.cell R1.out.hr.len a Ra.out
  have n0 : W1.cell? ⟨n, 0, none⟩ = some (.int .i64 23) := VN.out.cell 0 rfl
  have n2 : W1.cell? ⟨n, 2, none⟩ = some (.int .i64 (a : Int)) := VN.out.cell 2 rfl
  have n3 : W1.cell? ⟨n, 3, none⟩ = some (.int .i64 im) := VN.out.cell 3 rfl
  have aI := Ia.out
  go_upto_region 3 with (go_at_call 65; refine (spec_add _ _ _).mono ?_; rintro e y ⟨rfl, hy⟩; rw [hy]; clear hy y)
  go_quiet (first | (go_at_call 66; exact Calls.quiet_of_same (z_off _ _)) | (go_at_call 65; exact Calls.quiet_of_same (spec_add _ _ _)))
  have R0 : Hid (Bs (W1.drewN nq) B i o zs H (-1) (-1)) := R1.out.keep (dr (Below.refl _ _) _)
  have V0 : Hid (Vb (W1.drewN nq) n #[.int .i64 23, .int .i64 (d : Int), .int .i64 (a : Int), .int .i64 im] 76) := VN.out
  have B0 : Hid (Below B.base w (W1.drewN nq)) := dr B1.out _
  clear R1 VN B1 c4 c3 ca n0 n2 n3 aI
  generalize W1.drewN nq = x0 at *
  have n0 : x0.cell? ⟨n, 0, none⟩ = some (.int .i64 23) := V0.out.cell 0 rfl
  go_wp2_with fail
  refine (z_fall R0.out SN.out.hok 5 0).mono ?_
  rintro e x2 ⟨rfl, r2, b2⟩
  have R2 : Hid (Bs x2 B i o zs (trapV H 5 0) (-1) 5 ∧ Below B.base w x2) := ⟨r2, B0.out.trans b2⟩
  clear r2 b2 n0
  go_wp2_with fail
  go_ret
  exact ⟨rfl, _, _, R2.out.1, R2.out.2⟩
set_option maxRecDepth 20000 in
set_option maxHeartbeats 8000000 in
theorem zd_24 {w : World} {B : Bp} {i o : Value} {zs : List Int} {H : Ht} (R : Bs w B i o zs H (-1) (-1)) (sn : Sn H B.ps zs B.p) (d a : Nat) (hd : d < 16) (ha : a < 16) (im : Int) (i0 : 0 ≤ im) (i6 : im ≤ 65535) :
    Calls Tryz.prog 44 #[.pointer (some ⟨B.q, 0, none⟩), .agg #[.int .i64 24, .int .i64 (d : Int), .int .i64 (a : Int), .int .i64 im]] w fun e w' => e = .returned (.bool true) ∧ ∃ i' o', Bs w' B i' o' zs { backV H with pc := (backV H).pc } (-1) (-1) ∧ Below B.base w w' := by
  have HR : Hid (Bs w B i o zs H (-1) (-1)) := R
  have SN : Hid (Sn H B.ps zs B.p) := sn
  have Rd : Hid (d < 16) := hd
  have Id : Hid ((d : Int) < 16) := by show _ < _; omega
  have Ra : Hid (a < 16) := ha
  have Ia : Hid ((a : Int) < 16) := by show _ < _; omega
  clear R sn
  go_enter Tryz.func44, Tryz.ntmps44
  go_upto_region 1 with fail
  generalize hW : w.alloc (.cells #[.int .i64 24, .int .i64 (d : Int), .int .i64 (a : Int), .int .i64 im] 76) = W1
  obtain ⟨n, hn⟩ : ∃ n, w.heap.size = n := ⟨_, rfl⟩
  rw [hn]
  have VN : Hid (Vb W1 n #[.int .i64 24, .int .i64 (d : Int), .int .i64 (a : Int), .int .i64 im] 76) := by show Vb _ _ _ _; rw [← hW, ← hn]; exact Vb.new _ _ _
  have bb : Below w.heap.size w W1 := by rw [← hW]; exact al (Below.refl _ _) _
  have R1 : Hid (Bs W1 B i o zs H (-1) (-1)) := HR.out.keep bb
  have B1 : Hid (Below B.base w W1) := bless bb HR.out.size
  have QN : Hid (n ≠ B.q ∧ n ≠ B.rg ∧ n ≠ B.cg ∧ n ≠ B.gm ∧ o.ownBlock ≠ some n) := by
    obtain ⟨bo, _, _, ho, _⟩ := HR.out.ho
    exact ⟨by have := HR.out.v.lt; omega, by have := (HR.out.hr.lt B.rg rfl).2; omega, by have := (HR.out.hc.lt B.cg rfl).2; omega, by have := (HR.out.hm.lt B.gm rfl).2; omega, fun e => by have := (ho.lt n e).2; omega⟩
  clear hW hn bb
  have c4 : W1.cell? ⟨B.q, 4, none⟩ = some (.int .i64 H.pc) := R1.out.v.cell 4 rfl
  have c3 : W1.cell? ⟨B.q, 3, none⟩ = some (.slice (some ⟨B.rg, 0, none⟩) 16 B.rk) := R1.out.v.cell 3 rfl
  have ca : W1.cell? ⟨B.rg, a, none⟩ = some (.int .i64 (gt H.regs a)) := R1.out.hr.cell R1.out.hr.len a Ra.out
  have n0 : W1.cell? ⟨n, 0, none⟩ = some (.int .i64 24) := VN.out.cell 0 rfl
  have n2 : W1.cell? ⟨n, 2, none⟩ = some (.int .i64 (a : Int)) := VN.out.cell 2 rfl
  have n3 : W1.cell? ⟨n, 3, none⟩ = some (.int .i64 im) := VN.out.cell 3 rfl
  have aI := Ia.out
  go_upto_region 3 with (go_at_call 65; refine (spec_add _ _ _).mono ?_; rintro e y ⟨rfl, hy⟩; rw [hy]; clear hy y)
  go_quiet (first | (go_at_call 66; exact Calls.quiet_of_same (z_off _ _)) | (go_at_call 65; exact Calls.quiet_of_same (spec_add _ _ _)))
  have R0 : Hid (Bs (W1.drewN nq) B i o zs H (-1) (-1)) := R1.out.keep (dr (Below.refl _ _) _)
  have V0 : Hid (Vb (W1.drewN nq) n #[.int .i64 24, .int .i64 (d : Int), .int .i64 (a : Int), .int .i64 im] 76) := VN.out
  have B0 : Hid (Below B.base w (W1.drewN nq)) := dr B1.out _
  clear R1 VN B1 c4 c3 ca n0 n2 n3 aI
  generalize W1.drewN nq = x0 at *
  have n0 : x0.cell? ⟨n, 0, none⟩ = some (.int .i64 24) := V0.out.cell 0 rfl
  go_wp2_with fail
  refine (z_back R0.out SN.out.hok).mono ?_
  rintro e x2 ⟨rfl, r2, b2⟩
  have R2 : Hid (Bs x2 B i o zs (backV H) (-1) (-1)) := r2
  have B2 : Hid (Below B.base w x2) := B0.out.trans b2
  clear r2 b2 n0
  have d4 : x2.cell? ⟨B.q, 4, none⟩ = some (.int .i64 (backV H).pc) := R2.out.v.cell 4 rfl
  have f4 := R2.out.v.free 4
  go_wp2_with fail
  go_ret
  have U := R2.out.fld (G := { backV H with pc := (backV H).pc }) (ri' := -1) (fa' := -1) 4 (.int .i64 (backV H).pc) rfl rfl rfl rfl rfl
  first | exact ⟨rfl, _, _, U.1, B2.out.trans U.2⟩ | exact ⟨rfl, ⟨_, _, U.1⟩, B2.out.trans U.2⟩
set_option maxRecDepth 20000 in
set_option maxHeartbeats 8000000 in
theorem zd_25 {w : World} {B : Bp} {i o : Value} {zs : List Int} {H : Ht} (R : Bs w B i o zs H (-1) (-1)) (sn : Sn H B.ps zs B.p) (d a : Nat) (hd : d < 16) (ha : a < 16) (im : Int) (i0 : 0 ≤ im) (i6 : im ≤ 65535) :
    Calls Tryz.prog 44 #[.pointer (some ⟨B.q, 0, none⟩), .agg #[.int .i64 25, .int .i64 (d : Int), .int .i64 (a : Int), .int .i64 im]] w fun e w' => e = .returned (.bool true) ∧ ∃ i' o', Bs w' B i' o' zs { { H with waiting := true } with pc := (addV H.pc 1) } (-1) (-1) ∧ Below B.base w w' := by
  have HR : Hid (Bs w B i o zs H (-1) (-1)) := R
  have SN : Hid (Sn H B.ps zs B.p) := sn
  have Rd : Hid (d < 16) := hd
  have Id : Hid ((d : Int) < 16) := by show _ < _; omega
  have Ra : Hid (a < 16) := ha
  have Ia : Hid ((a : Int) < 16) := by show _ < _; omega
  clear R sn
  go_enter Tryz.func44, Tryz.ntmps44
  go_upto_region 1 with fail
  generalize hW : w.alloc (.cells #[.int .i64 25, .int .i64 (d : Int), .int .i64 (a : Int), .int .i64 im] 76) = W1
  obtain ⟨n, hn⟩ : ∃ n, w.heap.size = n := ⟨_, rfl⟩
  rw [hn]
  have VN : Hid (Vb W1 n #[.int .i64 25, .int .i64 (d : Int), .int .i64 (a : Int), .int .i64 im] 76) := by show Vb _ _ _ _; rw [← hW, ← hn]; exact Vb.new _ _ _
  have bb : Below w.heap.size w W1 := by rw [← hW]; exact al (Below.refl _ _) _
  have R1 : Hid (Bs W1 B i o zs H (-1) (-1)) := HR.out.keep bb
  have B1 : Hid (Below B.base w W1) := bless bb HR.out.size
  have QN : Hid (n ≠ B.q ∧ n ≠ B.rg ∧ n ≠ B.cg ∧ n ≠ B.gm ∧ o.ownBlock ≠ some n) := by
    obtain ⟨bo, _, _, ho, _⟩ := HR.out.ho
    exact ⟨by have := HR.out.v.lt; omega, by have := (HR.out.hr.lt B.rg rfl).2; omega, by have := (HR.out.hc.lt B.cg rfl).2; omega, by have := (HR.out.hm.lt B.gm rfl).2; omega, fun e => by have := (ho.lt n e).2; omega⟩
  clear hW hn bb
  have c4 : W1.cell? ⟨B.q, 4, none⟩ = some (.int .i64 H.pc) := R1.out.v.cell 4 rfl
  have c3 : W1.cell? ⟨B.q, 3, none⟩ = some (.slice (some ⟨B.rg, 0, none⟩) 16 B.rk) := R1.out.v.cell 3 rfl
  have ca : W1.cell? ⟨B.rg, a, none⟩ = some (.int .i64 (gt H.regs a)) := R1.out.hr.cell R1.out.hr.len a Ra.out
  have n0 : W1.cell? ⟨n, 0, none⟩ = some (.int .i64 25) := VN.out.cell 0 rfl
  have n2 : W1.cell? ⟨n, 2, none⟩ = some (.int .i64 (a : Int)) := VN.out.cell 2 rfl
  have n3 : W1.cell? ⟨n, 3, none⟩ = some (.int .i64 im) := VN.out.cell 3 rfl
  have aI := Ia.out
  go_upto_region 3 with (go_at_call 65; refine (spec_add _ _ _).mono ?_; rintro e y ⟨rfl, hy⟩; rw [hy]; clear hy y)
  go_quiet (first | (go_at_call 66; exact Calls.quiet_of_same (z_off _ _)) | (go_at_call 65; exact Calls.quiet_of_same (spec_add _ _ _)))
  have R0 : Hid (Bs (W1.drewN nq) B i o zs H (-1) (-1)) := R1.out.keep (dr (Below.refl _ _) _)
  have V0 : Hid (Vb (W1.drewN nq) n #[.int .i64 25, .int .i64 (d : Int), .int .i64 (a : Int), .int .i64 im] 76) := VN.out
  have B0 : Hid (Below B.base w (W1.drewN nq)) := dr B1.out _
  clear R1 VN B1 c4 c3 ca n0 n2 n3 aI
  generalize W1.drewN nq = x0 at *
  have n0 : x0.cell? ⟨n, 0, none⟩ = some (.int .i64 25) := V0.out.cell 0 rfl
  have dk := R0.out.v.cell 7 rfl
  have fk := R0.out.v.free 7
  have d4 : x0.cell? ⟨B.q, 4, none⟩ = some (.int .i64 H.pc) := R0.out.v.cell 4 rfl
  have f4 := R0.out.v.free 4
  have U1 := R0.out.fld (G := { H with waiting := true }) (ri' := -1) (fa' := -1) 7 (.bool true) rfl rfl rfl rfl rfl
  have U2 := U1.1.fld (G := { { H with waiting := true } with pc := (addV H.pc 1) }) (ri' := -1) (fa' := -1) 4 (.int .i64 (addV H.pc 1)) rfl rfl rfl rfl rfl
  have UU : Hid (_ ∧ _) := And.intro U2.1 (B0.out.trans (U1.2.trans U2.2))
  have e4 : (x0.setCell ⟨B.q, 7, none⟩ (.bool true)).cell? ⟨B.q, 4, none⟩ = some (.int .i64 H.pc) := U1.1.v.cell 4 rfl
  clear U1 U2
  go_wp2_with fail
  go_ret
  first | exact ⟨rfl, _, _, UU.out.1, UU.out.2⟩ | exact ⟨rfl, ⟨_, _, UU.out.1⟩, UU.out.2⟩
set_option maxRecDepth 20000 in
set_option maxHeartbeats 8000000 in
theorem zd_26 {w : World} {B : Bp} {i o : Value} {zs : List Int} {H : Ht} (R : Bs w B i o zs H (-1) (-1)) (sn : Sn H B.ps zs B.p) (d a : Nat) (hd : d < 16) (ha : a < 16) (im : Int) (i0 : 0 ≤ im) (i6 : im ≤ 65535) :
    Calls Tryz.prog 44 #[.pointer (some ⟨B.q, 0, none⟩), .agg #[.int .i64 26, .int .i64 (d : Int), .int .i64 (a : Int), .int .i64 im]] w fun e w' => e = .returned (.bool true) ∧ ∃ i' o', Bs w' B i' o' zs { { H with halted := true } with pc := H.pc } (-1) (-1) ∧ Below B.base w w' := by
  have HR : Hid (Bs w B i o zs H (-1) (-1)) := R
  have SN : Hid (Sn H B.ps zs B.p) := sn
  have Rd : Hid (d < 16) := hd
  have Id : Hid ((d : Int) < 16) := by show _ < _; omega
  have Ra : Hid (a < 16) := ha
  have Ia : Hid ((a : Int) < 16) := by show _ < _; omega
  clear R sn
  go_enter Tryz.func44, Tryz.ntmps44
  go_upto_region 1 with fail
  generalize hW : w.alloc (.cells #[.int .i64 26, .int .i64 (d : Int), .int .i64 (a : Int), .int .i64 im] 76) = W1
  obtain ⟨n, hn⟩ : ∃ n, w.heap.size = n := ⟨_, rfl⟩
  rw [hn]
  have VN : Hid (Vb W1 n #[.int .i64 26, .int .i64 (d : Int), .int .i64 (a : Int), .int .i64 im] 76) := by show Vb _ _ _ _; rw [← hW, ← hn]; exact Vb.new _ _ _
  have bb : Below w.heap.size w W1 := by rw [← hW]; exact al (Below.refl _ _) _
  have R1 : Hid (Bs W1 B i o zs H (-1) (-1)) := HR.out.keep bb
  have B1 : Hid (Below B.base w W1) := bless bb HR.out.size
  have QN : Hid (n ≠ B.q ∧ n ≠ B.rg ∧ n ≠ B.cg ∧ n ≠ B.gm ∧ o.ownBlock ≠ some n) := by
    obtain ⟨bo, _, _, ho, _⟩ := HR.out.ho
    exact ⟨by have := HR.out.v.lt; omega, by have := (HR.out.hr.lt B.rg rfl).2; omega, by have := (HR.out.hc.lt B.cg rfl).2; omega, by have := (HR.out.hm.lt B.gm rfl).2; omega, fun e => by have := (ho.lt n e).2; omega⟩
  clear hW hn bb
  have c4 : W1.cell? ⟨B.q, 4, none⟩ = some (.int .i64 H.pc) := R1.out.v.cell 4 rfl
  have c3 : W1.cell? ⟨B.q, 3, none⟩ = some (.slice (some ⟨B.rg, 0, none⟩) 16 B.rk) := R1.out.v.cell 3 rfl
  have ca : W1.cell? ⟨B.rg, a, none⟩ = some (.int .i64 (gt H.regs a)) := R1.out.hr.cell R1.out.hr.len a Ra.out
  have n0 : W1.cell? ⟨n, 0, none⟩ = some (.int .i64 26) := VN.out.cell 0 rfl
  have n2 : W1.cell? ⟨n, 2, none⟩ = some (.int .i64 (a : Int)) := VN.out.cell 2 rfl
  have n3 : W1.cell? ⟨n, 3, none⟩ = some (.int .i64 im) := VN.out.cell 3 rfl
  have aI := Ia.out
  go_upto_region 3 with (go_at_call 65; refine (spec_add _ _ _).mono ?_; rintro e y ⟨rfl, hy⟩; rw [hy]; clear hy y)
  go_quiet (first | (go_at_call 66; exact Calls.quiet_of_same (z_off _ _)) | (go_at_call 65; exact Calls.quiet_of_same (spec_add _ _ _)))
  have R0 : Hid (Bs (W1.drewN nq) B i o zs H (-1) (-1)) := R1.out.keep (dr (Below.refl _ _) _)
  have V0 : Hid (Vb (W1.drewN nq) n #[.int .i64 26, .int .i64 (d : Int), .int .i64 (a : Int), .int .i64 im] 76) := VN.out
  have B0 : Hid (Below B.base w (W1.drewN nq)) := dr B1.out _
  clear R1 VN B1 c4 c3 ca n0 n2 n3 aI
  generalize W1.drewN nq = x0 at *
  have n0 : x0.cell? ⟨n, 0, none⟩ = some (.int .i64 26) := V0.out.cell 0 rfl
  have dk := R0.out.v.cell 6 rfl
  have fk := R0.out.v.free 6
  have d4 : x0.cell? ⟨B.q, 4, none⟩ = some (.int .i64 H.pc) := R0.out.v.cell 4 rfl
  have f4 := R0.out.v.free 4
  have U1 := R0.out.fld (G := { H with halted := true }) (ri' := -1) (fa' := -1) 6 (.bool true) rfl rfl rfl rfl rfl
  have U2 := U1.1.fld (G := { { H with halted := true } with pc := H.pc }) (ri' := -1) (fa' := -1) 4 (.int .i64 H.pc) rfl rfl rfl rfl rfl
  have UU : Hid (_ ∧ _) := And.intro U2.1 (B0.out.trans (U1.2.trans U2.2))
  have e4 : (x0.setCell ⟨B.q, 6, none⟩ (.bool true)).cell? ⟨B.q, 4, none⟩ = some (.int .i64 H.pc) := U1.1.v.cell 4 rfl
  clear U1 U2
  go_wp2_with fail
  go_ret
  first | exact ⟨rfl, _, _, UU.out.1, UU.out.2⟩ | exact ⟨rfl, ⟨_, _, UU.out.1⟩, UU.out.2⟩
set_option maxRecDepth 20000 in
set_option maxHeartbeats 8000000 in
theorem zd_14no {w : World} {B : Bp} {i o : Value} {zs : List Int} {H : Ht} (R : Bs w B i o zs H (-1) (-1)) (sn : Sn H B.ps zs B.p) (d a : Nat) (hd : d < 16) (ha : a < 16) (im : Int) (i0 : 0 ≤ im) (i6 : im ≤ 65535) (hz : ¬ plC H B.ps zs (addV (gt H.regs a) (offV im)) 1 = 0) :
    Calls Tryz.prog 44 #[.pointer (some ⟨B.q, 0, none⟩), .agg #[.int .i64 14, .int .i64 (d : Int), .int .i64 (a : Int), .int .i64 im]] w fun e w' => e = .returned (.bool false) ∧ ∃ i' o', Bs w' B i' o' zs (trapV H 3 (addV (gt H.regs a) (offV im))) (-1) 3 ∧ Below B.base w w' := by
  have HR : Hid (Bs w B i o zs H (-1) (-1)) := R
  have SN : Hid (Sn H B.ps zs B.p) := sn
  have Rd : Hid (d < 16) := hd
  have Id : Hid ((d : Int) < 16) := by show _ < _; omega
  have Ra : Hid (a < 16) := ha
  have Ia : Hid ((a : Int) < 16) := by show _ < _; omega
  have HZ : Hid (¬ plC H B.ps zs (addV (gt H.regs a) (offV im)) 1 = 0) := hz
  clear hz
  clear R sn
  go_enter Tryz.func44, Tryz.ntmps44
  go_upto_region 1 with fail
  generalize hW : w.alloc (.cells #[.int .i64 14, .int .i64 (d : Int), .int .i64 (a : Int), .int .i64 im] 76) = W1
  obtain ⟨n, hn⟩ : ∃ n, w.heap.size = n := ⟨_, rfl⟩
  rw [hn]
  have VN : Hid (Vb W1 n #[.int .i64 14, .int .i64 (d : Int), .int .i64 (a : Int), .int .i64 im] 76) := by show Vb _ _ _ _; rw [← hW, ← hn]; exact Vb.new _ _ _
  have bb : Below w.heap.size w W1 := by rw [← hW]; exact al (Below.refl _ _) _
  have R1 : Hid (Bs W1 B i o zs H (-1) (-1)) := HR.out.keep bb
  have B1 : Hid (Below B.base w W1) := bless bb HR.out.size
  have QN : Hid (n ≠ B.q ∧ n ≠ B.rg ∧ n ≠ B.cg ∧ n ≠ B.gm ∧ o.ownBlock ≠ some n) := by
    obtain ⟨bo, _, _, ho, _⟩ := HR.out.ho
    exact ⟨by have := HR.out.v.lt; omega, by have := (HR.out.hr.lt B.rg rfl).2; omega, by have := (HR.out.hc.lt B.cg rfl).2; omega, by have := (HR.out.hm.lt B.gm rfl).2; omega, fun e => by have := (ho.lt n e).2; omega⟩
  clear hW hn bb
  have c4 : W1.cell? ⟨B.q, 4, none⟩ = some (.int .i64 H.pc) := R1.out.v.cell 4 rfl
  have c3 : W1.cell? ⟨B.q, 3, none⟩ = some (.slice (some ⟨B.rg, 0, none⟩) 16 B.rk) := R1.out.v.cell 3 rfl
  have ca : W1.cell? ⟨B.rg, a, none⟩ = some (.int .i64 (gt H.regs a)) := R1.out.hr.cell R1.out.hr.len a Ra.out
  have n0 : W1.cell? ⟨n, 0, none⟩ = some (.int .i64 14) := VN.out.cell 0 rfl
  have n2 : W1.cell? ⟨n, 2, none⟩ = some (.int .i64 (a : Int)) := VN.out.cell 2 rfl
  have n3 : W1.cell? ⟨n, 3, none⟩ = some (.int .i64 im) := VN.out.cell 3 rfl
  have aI := Ia.out
  go_upto_region 3 with (go_at_call 65; refine (spec_add _ _ _).mono ?_; rintro e y ⟨rfl, hy⟩; rw [hy]; clear hy y)
  go_quiet (first | (go_at_call 66; exact Calls.quiet_of_same (z_off _ _)) | (go_at_call 65; exact Calls.quiet_of_same (spec_add _ _ _)))
  have R0 : Hid (Bs (W1.drewN nq) B i o zs H (-1) (-1)) := R1.out.keep (dr (Below.refl _ _) _)
  have V0 : Hid (Vb (W1.drewN nq) n #[.int .i64 14, .int .i64 (d : Int), .int .i64 (a : Int), .int .i64 im] 76) := VN.out
  have B0 : Hid (Below B.base w (W1.drewN nq)) := dr B1.out _
  clear R1 VN B1 c4 c3 ca n0 n2 n3 aI
  generalize W1.drewN nq = x0 at *
  have n0 : x0.cell? ⟨n, 0, none⟩ = some (.int .i64 14) := V0.out.cell 0 rfl
  have n1 : x0.cell? ⟨n, 1, none⟩ = some (.int .i64 (d : Int)) := V0.out.cell 1 rfl
  have n2 : x0.cell? ⟨n, 2, none⟩ = some (.int .i64 (a : Int)) := V0.out.cell 2 rfl
  have n3 : x0.cell? ⟨n, 3, none⟩ = some (.int .i64 im) := V0.out.cell 3 rfl
  go_upto_region 12 with fail
  go_wp2_with fail
  refine (zm_loadNo R0.out SN.out d a Rd.out Ra.out im HZ.out).mono ?_
  rintro e x2 ⟨rfl, i2, o2, r2, b2⟩
  have R2 : Hid (Bs x2 B i2 o2 zs (trapV H 3 (addV (gt H.regs a) (offV im))) (-1) 3 ∧ Below B.base w x2) := ⟨r2, B0.out.trans b2⟩
  clear r2 b2 n0 n1 n2 n3
  go_wp2_with fail
  go_ret
  first | exact ⟨rfl, _, _, R2.out.1, R2.out.2⟩ | exact ⟨rfl, ⟨_, _, R2.out.1⟩, R2.out.2⟩
set_option maxRecDepth 20000 in
set_option maxHeartbeats 8000000 in
theorem zd_15no {w : World} {B : Bp} {i o : Value} {zs : List Int} {H : Ht} (R : Bs w B i o zs H (-1) (-1)) (sn : Sn H B.ps zs B.p) (d a : Nat) (hd : d < 16) (ha : a < 16) (im : Int) (i0 : 0 ≤ im) (i6 : im ≤ 65535) (hz : ¬ plC H B.ps zs (addV (gt H.regs a) (offV im)) 2 = 0) :
    Calls Tryz.prog 44 #[.pointer (some ⟨B.q, 0, none⟩), .agg #[.int .i64 15, .int .i64 (d : Int), .int .i64 (a : Int), .int .i64 im]] w fun e w' => e = .returned (.bool false) ∧ ∃ i' o', Bs w' B i' o' zs (trapV H 4 (addV (gt H.regs a) (offV im))) (-1) 4 ∧ Below B.base w w' := by
  have HR : Hid (Bs w B i o zs H (-1) (-1)) := R
  have SN : Hid (Sn H B.ps zs B.p) := sn
  have Rd : Hid (d < 16) := hd
  have Id : Hid ((d : Int) < 16) := by show _ < _; omega
  have Ra : Hid (a < 16) := ha
  have Ia : Hid ((a : Int) < 16) := by show _ < _; omega
  have HZ : Hid (¬ plC H B.ps zs (addV (gt H.regs a) (offV im)) 2 = 0) := hz
  clear hz
  clear R sn
  go_enter Tryz.func44, Tryz.ntmps44
  go_upto_region 1 with fail
  generalize hW : w.alloc (.cells #[.int .i64 15, .int .i64 (d : Int), .int .i64 (a : Int), .int .i64 im] 76) = W1
  obtain ⟨n, hn⟩ : ∃ n, w.heap.size = n := ⟨_, rfl⟩
  rw [hn]
  have VN : Hid (Vb W1 n #[.int .i64 15, .int .i64 (d : Int), .int .i64 (a : Int), .int .i64 im] 76) := by show Vb _ _ _ _; rw [← hW, ← hn]; exact Vb.new _ _ _
  have bb : Below w.heap.size w W1 := by rw [← hW]; exact al (Below.refl _ _) _
  have R1 : Hid (Bs W1 B i o zs H (-1) (-1)) := HR.out.keep bb
  have B1 : Hid (Below B.base w W1) := bless bb HR.out.size
  have QN : Hid (n ≠ B.q ∧ n ≠ B.rg ∧ n ≠ B.cg ∧ n ≠ B.gm ∧ o.ownBlock ≠ some n) := by
    obtain ⟨bo, _, _, ho, _⟩ := HR.out.ho
    exact ⟨by have := HR.out.v.lt; omega, by have := (HR.out.hr.lt B.rg rfl).2; omega, by have := (HR.out.hc.lt B.cg rfl).2; omega, by have := (HR.out.hm.lt B.gm rfl).2; omega, fun e => by have := (ho.lt n e).2; omega⟩
  clear hW hn bb
  have c4 : W1.cell? ⟨B.q, 4, none⟩ = some (.int .i64 H.pc) := R1.out.v.cell 4 rfl
  have c3 : W1.cell? ⟨B.q, 3, none⟩ = some (.slice (some ⟨B.rg, 0, none⟩) 16 B.rk) := R1.out.v.cell 3 rfl
  have ca : W1.cell? ⟨B.rg, a, none⟩ = some (.int .i64 (gt H.regs a)) := R1.out.hr.cell R1.out.hr.len a Ra.out
  have n0 : W1.cell? ⟨n, 0, none⟩ = some (.int .i64 15) := VN.out.cell 0 rfl
  have n2 : W1.cell? ⟨n, 2, none⟩ = some (.int .i64 (a : Int)) := VN.out.cell 2 rfl
  have n3 : W1.cell? ⟨n, 3, none⟩ = some (.int .i64 im) := VN.out.cell 3 rfl
  have aI := Ia.out
  go_upto_region 3 with (go_at_call 65; refine (spec_add _ _ _).mono ?_; rintro e y ⟨rfl, hy⟩; rw [hy]; clear hy y)
  go_quiet (first | (go_at_call 66; exact Calls.quiet_of_same (z_off _ _)) | (go_at_call 65; exact Calls.quiet_of_same (spec_add _ _ _)))
  have R0 : Hid (Bs (W1.drewN nq) B i o zs H (-1) (-1)) := R1.out.keep (dr (Below.refl _ _) _)
  have V0 : Hid (Vb (W1.drewN nq) n #[.int .i64 15, .int .i64 (d : Int), .int .i64 (a : Int), .int .i64 im] 76) := VN.out
  have B0 : Hid (Below B.base w (W1.drewN nq)) := dr B1.out _
  clear R1 VN B1 c4 c3 ca n0 n2 n3 aI
  generalize W1.drewN nq = x0 at *
  have n0 : x0.cell? ⟨n, 0, none⟩ = some (.int .i64 15) := V0.out.cell 0 rfl
  have n1 : x0.cell? ⟨n, 1, none⟩ = some (.int .i64 (d : Int)) := V0.out.cell 1 rfl
  have n2 : x0.cell? ⟨n, 2, none⟩ = some (.int .i64 (a : Int)) := V0.out.cell 2 rfl
  have n3 : x0.cell? ⟨n, 3, none⟩ = some (.int .i64 im) := V0.out.cell 3 rfl
  go_upto_region 12 with fail
  go_wp2_with fail
  refine (zm_storeNo R0.out SN.out d a Rd.out Ra.out im HZ.out).mono ?_
  rintro e x2 ⟨rfl, i2, o2, r2, b2⟩
  have R2 : Hid (Bs x2 B i2 o2 zs (trapV H 4 (addV (gt H.regs a) (offV im))) (-1) 4 ∧ Below B.base w x2) := ⟨r2, B0.out.trans b2⟩
  clear r2 b2 n0 n1 n2 n3
  go_wp2_with fail
  go_ret
  first | exact ⟨rfl, _, _, R2.out.1, R2.out.2⟩ | exact ⟨rfl, ⟨_, _, R2.out.1⟩, R2.out.2⟩
set_option maxRecDepth 20000 in
set_option maxHeartbeats 8000000 in
theorem zd_14 {w : World} {B : Bp} {i o : Value} {zs : List Int} {H : Ht} (R : Bs w B i o zs H (-1) (-1)) (sn : Sn H B.ps zs B.p) (d a : Nat) (hd : d < 16) (ha : a < 16) (im : Int) (i0 : 0 ≤ im) (i6 : im ≤ 65535) (hz : plC H B.ps zs (addV (gt H.regs a) (offV im)) 1 = 0) :
    Calls Tryz.prog 44 #[.pointer (some ⟨B.q, 0, none⟩), .agg #[.int .i64 14, .int .i64 (d : Int), .int .i64 (a : Int), .int .i64 im]] w fun e w' => e = .returned (.bool true) ∧ ∃ i' o', Bs w' B i' o' zs { putV (loadH H B.ps zs (addV (gt H.regs a) (offV im))) d (loadW H B.ps zs (addV (gt H.regs a) (offV im))) with pc := (addV H.pc 1) } (-1) (-1) ∧ Below B.base w w' := by
  have HR : Hid (Bs w B i o zs H (-1) (-1)) := R
  have SN : Hid (Sn H B.ps zs B.p) := sn
  have Rd : Hid (d < 16) := hd
  have Id : Hid ((d : Int) < 16) := by show _ < _; omega
  have Ra : Hid (a < 16) := ha
  have Ia : Hid ((a : Int) < 16) := by show _ < _; omega
  have HZ : Hid (plC H B.ps zs (addV (gt H.regs a) (offV im)) 1 = 0) := hz
  clear hz
  clear R sn
  go_enter Tryz.func44, Tryz.ntmps44
  go_upto_region 1 with fail
  generalize hW : w.alloc (.cells #[.int .i64 14, .int .i64 (d : Int), .int .i64 (a : Int), .int .i64 im] 76) = W1
  obtain ⟨n, hn⟩ : ∃ n, w.heap.size = n := ⟨_, rfl⟩
  rw [hn]
  have VN : Hid (Vb W1 n #[.int .i64 14, .int .i64 (d : Int), .int .i64 (a : Int), .int .i64 im] 76) := by show Vb _ _ _ _; rw [← hW, ← hn]; exact Vb.new _ _ _
  have bb : Below w.heap.size w W1 := by rw [← hW]; exact al (Below.refl _ _) _
  have R1 : Hid (Bs W1 B i o zs H (-1) (-1)) := HR.out.keep bb
  have B1 : Hid (Below B.base w W1) := bless bb HR.out.size
  have QN : Hid (n ≠ B.q ∧ n ≠ B.rg ∧ n ≠ B.cg ∧ n ≠ B.gm ∧ o.ownBlock ≠ some n) := by
    obtain ⟨bo, _, _, ho, _⟩ := HR.out.ho
    exact ⟨by have := HR.out.v.lt; omega, by have := (HR.out.hr.lt B.rg rfl).2; omega, by have := (HR.out.hc.lt B.cg rfl).2; omega, by have := (HR.out.hm.lt B.gm rfl).2; omega, fun e => by have := (ho.lt n e).2; omega⟩
  clear hW hn bb
  have c4 : W1.cell? ⟨B.q, 4, none⟩ = some (.int .i64 H.pc) := R1.out.v.cell 4 rfl
  have c3 : W1.cell? ⟨B.q, 3, none⟩ = some (.slice (some ⟨B.rg, 0, none⟩) 16 B.rk) := R1.out.v.cell 3 rfl
  have ca : W1.cell? ⟨B.rg, a, none⟩ = some (.int .i64 (gt H.regs a)) := R1.out.hr.cell R1.out.hr.len a Ra.out
  have n0 : W1.cell? ⟨n, 0, none⟩ = some (.int .i64 14) := VN.out.cell 0 rfl
  have n2 : W1.cell? ⟨n, 2, none⟩ = some (.int .i64 (a : Int)) := VN.out.cell 2 rfl
  have n3 : W1.cell? ⟨n, 3, none⟩ = some (.int .i64 im) := VN.out.cell 3 rfl
  have aI := Ia.out
  go_upto_region 3 with (go_at_call 65; refine (spec_add _ _ _).mono ?_; rintro e y ⟨rfl, hy⟩; rw [hy]; clear hy y)
  go_quiet (first | (go_at_call 66; exact Calls.quiet_of_same (z_off _ _)) | (go_at_call 65; exact Calls.quiet_of_same (spec_add _ _ _)))
  have R0 : Hid (Bs (W1.drewN nq) B i o zs H (-1) (-1)) := R1.out.keep (dr (Below.refl _ _) _)
  have V0 : Hid (Vb (W1.drewN nq) n #[.int .i64 14, .int .i64 (d : Int), .int .i64 (a : Int), .int .i64 im] 76) := VN.out
  have B0 : Hid (Below B.base w (W1.drewN nq)) := dr B1.out _
  clear R1 VN B1 c4 c3 ca n0 n2 n3 aI
  generalize W1.drewN nq = x0 at *
  have n0 : x0.cell? ⟨n, 0, none⟩ = some (.int .i64 14) := V0.out.cell 0 rfl
  have n1 : x0.cell? ⟨n, 1, none⟩ = some (.int .i64 (d : Int)) := V0.out.cell 1 rfl
  have n2 : x0.cell? ⟨n, 2, none⟩ = some (.int .i64 (a : Int)) := V0.out.cell 2 rfl
  have n3 : x0.cell? ⟨n, 3, none⟩ = some (.int .i64 im) := V0.out.cell 3 rfl
  go_upto_region 12 with fail
  go_wp2_with fail
  refine (zm_load R0.out SN.out d a Rd.out Ra.out im HZ.out).mono ?_
  rintro e x2 ⟨rfl, i2, o2, r2, b2⟩
  have R2 : Hid (Bs x2 B i2 o2 zs (putV (loadH H B.ps zs (addV (gt H.regs a) (offV im))) d (loadW H B.ps zs (addV (gt H.regs a) (offV im)))) (-1) (-1)) := r2
  have B2 : Hid (Below B.base w x2) := B0.out.trans b2
  clear r2 b2 n0 n1 n2 n3
  have d4 : x2.cell? ⟨B.q, 4, none⟩ = some (.int .i64 (putV (loadH H B.ps zs (addV (gt H.regs a) (offV im))) d (loadW H B.ps zs (addV (gt H.regs a) (offV im)))).pc) := R2.out.v.cell 4 rfl
  have f4 := R2.out.v.free 4
  go_wp2_with fail
  go_ret
  have U := R2.out.fld (G := { putV (loadH H B.ps zs (addV (gt H.regs a) (offV im))) d (loadW H B.ps zs (addV (gt H.regs a) (offV im))) with pc := (addV H.pc 1) }) (ri' := -1) (fa' := -1) 4 (.int .i64 (addV H.pc 1)) rfl rfl rfl rfl rfl
  first | exact ⟨rfl, _, _, U.1, B2.out.trans U.2⟩ | exact ⟨rfl, ⟨_, _, U.1⟩, B2.out.trans U.2⟩
set_option maxRecDepth 20000 in
set_option maxHeartbeats 8000000 in
theorem zd_15 {w : World} {B : Bp} {i o : Value} {zs : List Int} {H : Ht} (R : Bs w B i o zs H (-1) (-1)) (sn : Sn H B.ps zs B.p) (d a : Nat) (hd : d < 16) (ha : a < 16) (im : Int) (i0 : 0 ≤ im) (i6 : im ≤ 65535) (hz : plC H B.ps zs (addV (gt H.regs a) (offV im)) 2 = 0) :
    Calls Tryz.prog 44 #[.pointer (some ⟨B.q, 0, none⟩), .agg #[.int .i64 15, .int .i64 (d : Int), .int .i64 (a : Int), .int .i64 im]] w fun e w' => e = .returned (.bool true) ∧ ∃ i' o', Bs w' B i' o' (storeZ H B.ps zs (addV (gt H.regs a) (offV im)) (gt H.regs d)) { storeH H B.ps zs (addV (gt H.regs a) (offV im)) (gt H.regs d) with pc := (addV H.pc 1) } (storeR H B.ps zs (addV (gt H.regs a) (offV im)) (gt H.regs d) (-1)) (-1) ∧ Below B.base w w' := by
  have HR : Hid (Bs w B i o zs H (-1) (-1)) := R
  have SN : Hid (Sn H B.ps zs B.p) := sn
  have Rd : Hid (d < 16) := hd
  have Id : Hid ((d : Int) < 16) := by show _ < _; omega
  have Ra : Hid (a < 16) := ha
  have Ia : Hid ((a : Int) < 16) := by show _ < _; omega
  have HZ : Hid (plC H B.ps zs (addV (gt H.regs a) (offV im)) 2 = 0) := hz
  clear hz
  clear R sn
  go_enter Tryz.func44, Tryz.ntmps44
  go_upto_region 1 with fail
  generalize hW : w.alloc (.cells #[.int .i64 15, .int .i64 (d : Int), .int .i64 (a : Int), .int .i64 im] 76) = W1
  obtain ⟨n, hn⟩ : ∃ n, w.heap.size = n := ⟨_, rfl⟩
  rw [hn]
  have VN : Hid (Vb W1 n #[.int .i64 15, .int .i64 (d : Int), .int .i64 (a : Int), .int .i64 im] 76) := by show Vb _ _ _ _; rw [← hW, ← hn]; exact Vb.new _ _ _
  have bb : Below w.heap.size w W1 := by rw [← hW]; exact al (Below.refl _ _) _
  have R1 : Hid (Bs W1 B i o zs H (-1) (-1)) := HR.out.keep bb
  have B1 : Hid (Below B.base w W1) := bless bb HR.out.size
  have QN : Hid (n ≠ B.q ∧ n ≠ B.rg ∧ n ≠ B.cg ∧ n ≠ B.gm ∧ o.ownBlock ≠ some n) := by
    obtain ⟨bo, _, _, ho, _⟩ := HR.out.ho
    exact ⟨by have := HR.out.v.lt; omega, by have := (HR.out.hr.lt B.rg rfl).2; omega, by have := (HR.out.hc.lt B.cg rfl).2; omega, by have := (HR.out.hm.lt B.gm rfl).2; omega, fun e => by have := (ho.lt n e).2; omega⟩
  clear hW hn bb
  have c4 : W1.cell? ⟨B.q, 4, none⟩ = some (.int .i64 H.pc) := R1.out.v.cell 4 rfl
  have c3 : W1.cell? ⟨B.q, 3, none⟩ = some (.slice (some ⟨B.rg, 0, none⟩) 16 B.rk) := R1.out.v.cell 3 rfl
  have ca : W1.cell? ⟨B.rg, a, none⟩ = some (.int .i64 (gt H.regs a)) := R1.out.hr.cell R1.out.hr.len a Ra.out
  have n0 : W1.cell? ⟨n, 0, none⟩ = some (.int .i64 15) := VN.out.cell 0 rfl
  have n2 : W1.cell? ⟨n, 2, none⟩ = some (.int .i64 (a : Int)) := VN.out.cell 2 rfl
  have n3 : W1.cell? ⟨n, 3, none⟩ = some (.int .i64 im) := VN.out.cell 3 rfl
  have aI := Ia.out
  go_upto_region 3 with (go_at_call 65; refine (spec_add _ _ _).mono ?_; rintro e y ⟨rfl, hy⟩; rw [hy]; clear hy y)
  go_quiet (first | (go_at_call 66; exact Calls.quiet_of_same (z_off _ _)) | (go_at_call 65; exact Calls.quiet_of_same (spec_add _ _ _)))
  have R0 : Hid (Bs (W1.drewN nq) B i o zs H (-1) (-1)) := R1.out.keep (dr (Below.refl _ _) _)
  have V0 : Hid (Vb (W1.drewN nq) n #[.int .i64 15, .int .i64 (d : Int), .int .i64 (a : Int), .int .i64 im] 76) := VN.out
  have B0 : Hid (Below B.base w (W1.drewN nq)) := dr B1.out _
  clear R1 VN B1 c4 c3 ca n0 n2 n3 aI
  generalize W1.drewN nq = x0 at *
  have n0 : x0.cell? ⟨n, 0, none⟩ = some (.int .i64 15) := V0.out.cell 0 rfl
  have n1 : x0.cell? ⟨n, 1, none⟩ = some (.int .i64 (d : Int)) := V0.out.cell 1 rfl
  have n2 : x0.cell? ⟨n, 2, none⟩ = some (.int .i64 (a : Int)) := V0.out.cell 2 rfl
  have n3 : x0.cell? ⟨n, 3, none⟩ = some (.int .i64 im) := V0.out.cell 3 rfl
  go_upto_region 12 with fail
  go_wp2_with fail
  refine (zm_store R0.out SN.out d a Rd.out Ra.out im HZ.out).mono ?_
  rintro e x2 ⟨rfl, i2, o2, r2, b2⟩
  have R2 : Hid (Bs x2 B i2 o2 (storeZ H B.ps zs (addV (gt H.regs a) (offV im)) (gt H.regs d)) (storeH H B.ps zs (addV (gt H.regs a) (offV im)) (gt H.regs d)) (storeR H B.ps zs (addV (gt H.regs a) (offV im)) (gt H.regs d) (-1)) (-1)) := r2
  have B2 : Hid (Below B.base w x2) := B0.out.trans b2
  clear r2 b2 n0 n1 n2 n3
  have d4 := R2.out.v.cell 4 rfl
  have f4 := R2.out.v.free 4
  go_wp2_with fail
  go_ret
  have U := R2.out.fld (G := { storeH H B.ps zs (addV (gt H.regs a) (offV im)) (gt H.regs d) with pc := (addV H.pc 1) }) (ri' := (storeR H B.ps zs (addV (gt H.regs a) (offV im)) (gt H.regs d) (-1))) (fa' := -1) 4 (.int .i64 (addV H.pc 1)) rfl rfl rfl rfl rfl
  first | exact ⟨rfl, _, _, U.1, B2.out.trans U.2⟩ | exact ⟨rfl, ⟨_, _, U.1⟩, B2.out.trans U.2⟩
set_option maxRecDepth 20000 in
set_option maxHeartbeats 8000000 in
theorem zd_alu {w : World} {B : Bp} {i o : Value} {zs : List Int} {H : Ht} (R : Bs w B i o zs H (-1) (-1)) (sn : Sn H B.ps zs B.p) (d a : Nat) (hd : d < 16) (ha : a < 16) (b : Nat) (hb : b < 16) (op : Int) (io : 1 ≤ op ∧ op ≤ 11) :
    Calls Tryz.prog 44 #[.pointer (some ⟨B.q, 0, none⟩), .agg #[.int .i64 op, .int .i64 (d : Int), .int .i64 (a : Int), .int .i64 (b : Int)]] w fun e w' => e = .returned (.bool true) ∧ ∃ i' o', Bs w' B i' o' zs { putV H d (aluV op (gt H.regs a) (gt H.regs b)) with pc := (addV H.pc 1) } (-1) (-1) ∧ Below B.base w w' := by
  have HR : Hid (Bs w B i o zs H (-1) (-1)) := R
  have SN : Hid (Sn H B.ps zs B.p) := sn
  have Rd : Hid (d < 16) := hd
  have Id : Hid ((d : Int) < 16) := by show _ < _; omega
  have Ra : Hid (a < 16) := ha
  have Ia : Hid ((a : Int) < 16) := by show _ < _; omega
  have Rb : Hid (b < 16) := hb
  have Ib : Hid ((b : Int) < 16) := by show _ < _; omega
  have Io : Hid (1 ≤ op ∧ op ≤ 11) := io
  have e12 : (op == 12) = false := by simp; omega
  have e13 : (op == 13) = false := by simp; omega
  have e14 : (op == 14) = false := by simp; omega
  have e15 : (op == 15) = false := by simp; omega
  have e16 : (op == 16) = false := by simp; omega
  have e17 : (op == 17) = false := by simp; omega
  have e18 : (op == 18) = false := by simp; omega
  have e19 : (op == 19) = false := by simp; omega
  have e20 : (op == 20) = false := by simp; omega
  have e21 : (op == 21) = false := by simp; omega
  have e22 : (op == 22) = false := by simp; omega
  have e23 : (op == 23) = false := by simp; omega
  have e24 : (op == 24) = false := by simp; omega
  have e25 : (op == 25) = false := by simp; omega
  have e26 : (op == 26) = false := by simp; omega
  clear R sn io hb
  go_enter Tryz.func44, Tryz.ntmps44
  go_upto_region 1 with fail
  generalize hW : w.alloc (.cells #[.int .i64 op, .int .i64 (d : Int), .int .i64 (a : Int), .int .i64 (b : Int)] 76) = W1
  obtain ⟨n, hn⟩ : ∃ n, w.heap.size = n := ⟨_, rfl⟩
  rw [hn]
  have VN : Hid (Vb W1 n #[.int .i64 op, .int .i64 (d : Int), .int .i64 (a : Int), .int .i64 (b : Int)] 76) := by show Vb _ _ _ _; rw [← hW, ← hn]; exact Vb.new _ _ _
  have bb : Below w.heap.size w W1 := by rw [← hW]; exact al (Below.refl _ _) _
  have R1 : Hid (Bs W1 B i o zs H (-1) (-1)) := HR.out.keep bb
  have B1 : Hid (Below B.base w W1) := bless bb HR.out.size
  have QN : Hid (n ≠ B.q ∧ n ≠ B.rg ∧ n ≠ B.cg ∧ n ≠ B.gm ∧ o.ownBlock ≠ some n) := by
    obtain ⟨bo, _, _, ho, _⟩ := HR.out.ho
    exact ⟨by have := HR.out.v.lt; omega, by have := (HR.out.hr.lt B.rg rfl).2; omega, by have := (HR.out.hc.lt B.cg rfl).2; omega, by have := (HR.out.hm.lt B.gm rfl).2; omega, fun e => by have := (ho.lt n e).2; omega⟩
  clear hW hn bb
  have c4 : W1.cell? ⟨B.q, 4, none⟩ = some (.int .i64 H.pc) := R1.out.v.cell 4 rfl
  have c3 : W1.cell? ⟨B.q, 3, none⟩ = some (.slice (some ⟨B.rg, 0, none⟩) 16 B.rk) := R1.out.v.cell 3 rfl
  have ca : W1.cell? ⟨B.rg, a, none⟩ = some (.int .i64 (gt H.regs a)) := R1.out.hr.cell R1.out.hr.len a Ra.out
  have n0 : W1.cell? ⟨n, 0, none⟩ = some (.int .i64 op) := VN.out.cell 0 rfl
  have n2 : W1.cell? ⟨n, 2, none⟩ = some (.int .i64 (a : Int)) := VN.out.cell 2 rfl
  have n3 : W1.cell? ⟨n, 3, none⟩ = some (.int .i64 (b : Int)) := VN.out.cell 3 rfl
  have aI := Ia.out
  go_upto_region 3 with (go_at_call 65; refine (spec_add _ _ _).mono ?_; rintro e y ⟨rfl, hy⟩; rw [hy]; clear hy y)
  go_quiet (first | (go_at_call 66; exact Calls.quiet_of_same (z_off _ _)) | (go_at_call 65; exact Calls.quiet_of_same (spec_add _ _ _)))
  have R0 : Hid (Bs (W1.drewN nq) B i o zs H (-1) (-1)) := R1.out.keep (dr (Below.refl _ _) _)
  have V0 : Hid (Vb (W1.drewN nq) n #[.int .i64 op, .int .i64 (d : Int), .int .i64 (a : Int), .int .i64 (b : Int)] 76) := VN.out
  have B0 : Hid (Below B.base w (W1.drewN nq)) := dr B1.out _
  clear R1 VN B1 c4 c3 ca n0 n2 n3 aI
  generalize W1.drewN nq = x0 at *
  have n0 : x0.cell? ⟨n, 0, none⟩ = some (.int .i64 op) := V0.out.cell 0 rfl
  go_upto_region 5 with fail
  clear e12 e13 e14 e15 e16 e17 e18 e19 e20 e21 e22 e23 e24 e25 e26 n0
  have S0 : Hid (Vb x0.drew n #[.int .i64 op, .int .i64 (d : Int), .int .i64 (a : Int), .int .i64 (b : Int)] 76 ∧ x0.drew.cell? ⟨B.q, 3, none⟩ = some (.slice (some ⟨B.rg, 0, none⟩) 16 B.rk) ∧ x0.drew.cell? ⟨B.q, 1, none⟩ = some (.slice (some ⟨B.gm, 0, none⟩) (B.p * 8) B.mc)) := ⟨V0.out, R0.out.v.cell 3 rfl, R0.out.v.cell 1 rfl⟩
  replace R0 := hid_dr R0
  replace B0 := hid_bd B0
  refine wp_region_held (S := fun w' => Vb w' n #[.int .i64 op, .int .i64 (d : Int), .int .i64 (a : Int), .int .i64 (b : Int)] 76 ∧ w'.cell? ⟨B.q, 3, none⟩ = some (.slice (some ⟨B.rg, 0, none⟩) 16 B.rk) ∧ w'.cell? ⟨B.q, 1, none⟩ = some (.slice (some ⟨B.gm, 0, none⟩) (B.p * 8) B.mc)) (by kernel_rfl) ?_
  change wpAnyH _ _ _ _ _ _ _ _ (World.drew _)
  generalize x0.drew = x1 at *
  refine tk (i := 0) (v := .pointer (some ⟨B.q, 0, none⟩)) rfl (Or.inl ⟨by rfl, fun w' hs => by go_simp⟩) S0.out ?_
  change wpAnyH _ _ _ _ _ _ _ (Act.put _ (some 27) _) _
  simp only [Act.put, List.setIfInBounds_toArray, List.set_cons_zero, List.set_cons_succ]
  refine tk (i := 1) (v := .pointer (some ⟨n, 1, none⟩)) rfl (Or.inl ⟨by rfl, fun w' hs => by go_simp⟩) S0.out ?_
  change wpAnyH _ _ _ _ _ _ _ (Act.put _ (some 28) _) _
  simp only [Act.put, List.setIfInBounds_toArray, List.set_cons_zero, List.set_cons_succ]
  refine tk (i := 2) (v := .int .i64 (d : Int)) rfl (Or.inl ⟨by rfl, fun w' hs => by have hc := (hs.1.cell 1 rfl : w'.cell? ⟨n, 1, none⟩ = some (.int .i64 (d : Int))); go_simp⟩) S0.out ?_
  change wpAnyH _ _ _ _ _ _ _ (Act.put _ (some 29) _) _
  simp only [Act.put, List.setIfInBounds_toArray, List.set_cons_zero, List.set_cons_succ]
  refine tk (i := 3) (v := .pointer (some ⟨n, 0, none⟩)) rfl (Or.inl ⟨by rfl, fun w' hs => by go_simp⟩) S0.out ?_
  change wpAnyH _ _ _ _ _ _ _ (Act.put _ (some 30) _) _
  simp only [Act.put, List.setIfInBounds_toArray, List.set_cons_zero, List.set_cons_succ]
  refine tk (i := 4) (v := .int .i64 op) rfl (Or.inl ⟨by rfl, fun w' hs => by have hc := (hs.1.cell 0 rfl : w'.cell? ⟨n, 0, none⟩ = some (.int .i64 op)); go_simp⟩) S0.out ?_
  change wpAnyH _ _ _ _ _ _ _ (Act.put _ (some 31) _) _
  simp only [Act.put, List.setIfInBounds_toArray, List.set_cons_zero, List.set_cons_succ]
  refine tk (i := 5) (v := .pointer (some ⟨B.q, 3, none⟩)) rfl (Or.inl ⟨by rfl, fun w' hs => by go_simp⟩) S0.out ?_
  change wpAnyH _ _ _ _ _ _ _ (Act.put _ (some 32) _) _
  simp only [Act.put, List.setIfInBounds_toArray, List.set_cons_zero, List.set_cons_succ]
  refine tk (i := 6) (v := .pointer (some ⟨B.q, 3, none⟩)) rfl (Or.inl ⟨by rfl, fun w' hs => by go_simp⟩) S0.out ?_
  change wpAnyH _ _ _ _ _ _ _ (Act.put _ (some 33) _) _
  simp only [Act.put, List.setIfInBounds_toArray, List.set_cons_zero, List.set_cons_succ]
  refine tk (i := 7) (v := .pointer (some ⟨B.q, 3, none⟩)) rfl (Or.inl ⟨by rfl, fun w' hs => by go_simp⟩) S0.out ?_
  change wpAnyH _ _ _ _ _ _ _ (Act.put _ (some 34) _) _
  simp only [Act.put, List.setIfInBounds_toArray, List.set_cons_zero, List.set_cons_succ]
  refine tk (i := 8) (v := .slice (some ⟨B.rg, 0, none⟩) 16 B.rk) rfl (Or.inl ⟨by rfl, fun w' hs => by have hc := hs.2.1; go_simp⟩) S0.out ?_
  change wpAnyH _ _ _ _ _ _ _ (Act.put _ (some 35) _) _
  simp only [Act.put, List.setIfInBounds_toArray, List.set_cons_zero, List.set_cons_succ]
  refine tk (i := 9) (v := .pointer (some ⟨n, 2, none⟩)) rfl (Or.inl ⟨by rfl, fun w' hs => by go_simp⟩) S0.out ?_
  change wpAnyH _ _ _ _ _ _ _ (Act.put _ (some 36) _) _
  simp only [Act.put, List.setIfInBounds_toArray, List.set_cons_zero, List.set_cons_succ]
  refine tk (i := 10) (v := .int .i64 (a : Int)) rfl (Or.inl ⟨by rfl, fun w' hs => by have hc := (hs.1.cell 2 rfl : w'.cell? ⟨n, 2, none⟩ = some (.int .i64 (a : Int))); go_simp⟩) S0.out ?_
  change wpAnyH _ _ _ _ _ _ _ (Act.put _ (some 37) _) _
  simp only [Act.put, List.setIfInBounds_toArray, List.set_cons_zero, List.set_cons_succ]
  refine tk (i := 11) (v := .pointer (some ⟨B.rg, a, none⟩)) rfl (Or.inl ⟨by rfl, fun w' hs => by have h1 := Ia.out; have h2 := Ra.out; go_simp⟩) S0.out ?_
  change wpAnyH _ _ _ _ _ _ _ (Act.put _ (some 38) _) _
  simp only [Act.put, List.setIfInBounds_toArray, List.set_cons_zero, List.set_cons_succ]
  refine tk (i := 13) (v := .pointer (some ⟨B.q, 3, none⟩)) rfl (Or.inl ⟨by rfl, fun w' hs => by go_simp⟩) S0.out ?_
  change wpAnyH _ _ _ _ _ _ _ (Act.put _ (some 40) _) _
  simp only [Act.put, List.setIfInBounds_toArray, List.set_cons_zero, List.set_cons_succ]
  refine tk (i := 14) (v := .pointer (some ⟨B.q, 3, none⟩)) rfl (Or.inl ⟨by rfl, fun w' hs => by go_simp⟩) S0.out ?_
  change wpAnyH _ _ _ _ _ _ _ (Act.put _ (some 41) _) _
  simp only [Act.put, List.setIfInBounds_toArray, List.set_cons_zero, List.set_cons_succ]
  refine tk (i := 15) (v := .pointer (some ⟨B.q, 3, none⟩)) rfl (Or.inl ⟨by rfl, fun w' hs => by go_simp⟩) S0.out ?_
  change wpAnyH _ _ _ _ _ _ _ (Act.put _ (some 42) _) _
  simp only [Act.put, List.setIfInBounds_toArray, List.set_cons_zero, List.set_cons_succ]
  refine tk (i := 16) (v := .slice (some ⟨B.rg, 0, none⟩) 16 B.rk) rfl (Or.inl ⟨by rfl, fun w' hs => by have hc := hs.2.1; go_simp⟩) S0.out ?_
  change wpAnyH _ _ _ _ _ _ _ (Act.put _ (some 43) _) _
  simp only [Act.put, List.setIfInBounds_toArray, List.set_cons_zero, List.set_cons_succ]
  refine tk (i := 17) (v := .pointer (some ⟨n, 3, none⟩)) rfl (Or.inl ⟨by rfl, fun w' hs => by go_simp⟩) S0.out ?_
  change wpAnyH _ _ _ _ _ _ _ (Act.put _ (some 44) _) _
  simp only [Act.put, List.setIfInBounds_toArray, List.set_cons_zero, List.set_cons_succ]
  refine tk (i := 18) (v := .int .i64 (b : Int)) rfl (Or.inl ⟨by rfl, fun w' hs => by have hc := (hs.1.cell 3 rfl : w'.cell? ⟨n, 3, none⟩ = some (.int .i64 (b : Int))); go_simp⟩) S0.out ?_
  change wpAnyH _ _ _ _ _ _ _ (Act.put _ (some 45) _) _
  simp only [Act.put, List.setIfInBounds_toArray, List.set_cons_zero, List.set_cons_succ]
  refine tk (i := 19) (v := .pointer (some ⟨B.rg, b, none⟩)) rfl (Or.inl ⟨by rfl, fun w' hs => by have h1 := Ib.out; have h2 := Rb.out; go_simp⟩) S0.out ?_
  change wpAnyH _ _ _ _ _ _ _ (Act.put _ (some 46) _) _
  simp only [Act.put, List.setIfInBounds_toArray, List.set_cons_zero, List.set_cons_succ]
  refine wpAnyH_ready (rs := [12, 20]) (by kernel_rfl) (by simp) ?_
  refine AllReadyH.cons rfl (fun K hK => ?_) ?_
  · rw [if_pos (by rfl)]
    have cl : x1.cell? ⟨B.rg, a, none⟩ = some (.int .i64 (gt H.regs a)) := R0.out.hr.cell R0.out.hr.len a Ra.out
    go_simp
    refine hK.out _ _ S0.out (fun _ => ?_)
    clear hK K cl
    refine wpAnyH_ready (rs := [20]) (by kernel_rfl) (by simp) ?_
    refine AllReadyH.cons rfl (fun K hK => ?_) AllReadyH.nil
    rw [if_pos (by rfl)]
    have cl : x1.cell? ⟨B.rg, b, none⟩ = some (.int .i64 (gt H.regs b)) := R0.out.hr.cell R0.out.hr.len b Rb.out
    go_simp
    refine hK.out _ _ S0.out (fun _ => ?_)
    clear hK K cl
    refine wpAnyH_ready (rs := [21]) (by kernel_rfl) (by simp) ?_
    refine AllReadyH.cons rfl (fun K hK => ?_) AllReadyH.nil
    rw [if_pos (by rfl)]
    go_simp
    refine (spec_l2Alu op _ _ _ Io.out).mono ?_
    rintro e x3 ⟨rfl, b3⟩
    have R3 : Hid (Bs x3 B i o zs H (-1) (-1)) := R0.out.keep b3
    have B3 : Hid (Below B.base w x3) := B0.out.trans (bless b3 R0.out.size)
    have S3 : Hid (Vb x3 n #[.int .i64 op, .int .i64 (d : Int), .int .i64 (a : Int), .int .i64 (b : Int)] 76 ∧ x3.cell? ⟨B.q, 3, none⟩ = some (.slice (some ⟨B.rg, 0, none⟩) 16 B.rk) ∧ x3.cell? ⟨B.q, 1, none⟩ = some (.slice (some ⟨B.gm, 0, none⟩) (B.p * 8) B.mc)) := ⟨S0.out.1.keep b3, R3.out.v.cell 3 rfl, R3.out.v.cell 1 rfl⟩
    clear b3
    refine hK.out _ _ S3.out (fun _ => ?_)
    clear hK K
    refine wpAnyH_ready (rs := [22]) (by kernel_rfl) (by simp) ?_
    refine AllReadyH.cons rfl (fun K hK => ?_) AllReadyH.nil
    rw [if_pos (by rfl)]
    go_simp
    refine (z_put R3.out d Rd.out (aluV op (gt H.regs a) (gt H.regs b))).mono ?_
    rintro e x2 ⟨rfl, ⟨r2, b2⟩, m2⟩
    have R2 : Hid (Bs x2 B i o zs (putV H d (aluV op (gt H.regs a) (gt H.regs b))) (-1) (-1)) := r2
    have B2 : Hid (Below B.base w x2) := B3.out.trans b2
    have S2 : Hid (Vb x2 n #[.int .i64 op, .int .i64 (d : Int), .int .i64 (a : Int), .int .i64 (b : Int)] 76 ∧ x2.cell? ⟨B.q, 3, none⟩ = some (.slice (some ⟨B.rg, 0, none⟩) 16 B.rk) ∧ x2.cell? ⟨B.q, 1, none⟩ = some (.slice (some ⟨B.gm, 0, none⟩) (B.p * 8) B.mc)) := ⟨m2.vb S3.out.1 fun e => QN.out.2.1 e, R2.out.v.cell 3 rfl, R2.out.v.cell 1 rfl⟩
    clear r2 b2 m2
    refine hK.out _ _ S2.out (fun _ => ?_)
    clear hK K
    refine wpAnyH_done (by kernel_rfl) ?_ _
    have d4 : x2.cell? ⟨B.q, 4, none⟩ = some (.int .i64 (putV H d (aluV op (gt H.regs a) (gt H.regs b))).pc) := R2.out.v.cell 4 rfl
    have f4 := R2.out.v.free 4
    go_wp2_with fail
    go_ret
    have U := R2.out.fld (G := { putV H d (aluV op (gt H.regs a) (gt H.regs b)) with pc := (addV H.pc 1) }) (ri' := -1) (fa' := -1) 4 (.int .i64 (addV H.pc 1)) rfl rfl rfl rfl rfl
    first | exact ⟨rfl, _, _, U.1, B2.out.trans U.2⟩ | exact ⟨rfl, ⟨_, _, U.1⟩, B2.out.trans U.2⟩
  refine AllReadyH.cons rfl (fun K hK => ?_) AllReadyH.nil
  rw [if_pos (by rfl)]
  have cl : x1.cell? ⟨B.rg, b, none⟩ = some (.int .i64 (gt H.regs b)) := R0.out.hr.cell R0.out.hr.len b Rb.out
  go_simp
  refine hK.out _ _ S0.out (fun _ => ?_)
  clear hK K cl
  refine wpAnyH_ready (rs := [12]) (by kernel_rfl) (by simp) ?_
  refine AllReadyH.cons rfl (fun K hK => ?_) AllReadyH.nil
  rw [if_pos (by rfl)]
  have cl : x1.cell? ⟨B.rg, a, none⟩ = some (.int .i64 (gt H.regs a)) := R0.out.hr.cell R0.out.hr.len a Ra.out
  go_simp
  refine hK.out _ _ S0.out (fun _ => ?_)
  clear hK K cl
  refine wpAnyH_ready (rs := [21]) (by kernel_rfl) (by simp) ?_
  refine AllReadyH.cons rfl (fun K hK => ?_) AllReadyH.nil
  rw [if_pos (by rfl)]
  go_simp
  refine (spec_l2Alu op _ _ _ Io.out).mono ?_
  rintro e x3 ⟨rfl, b3⟩
  have R3 : Hid (Bs x3 B i o zs H (-1) (-1)) := R0.out.keep b3
  have B3 : Hid (Below B.base w x3) := B0.out.trans (bless b3 R0.out.size)
  have S3 : Hid (Vb x3 n #[.int .i64 op, .int .i64 (d : Int), .int .i64 (a : Int), .int .i64 (b : Int)] 76 ∧ x3.cell? ⟨B.q, 3, none⟩ = some (.slice (some ⟨B.rg, 0, none⟩) 16 B.rk) ∧ x3.cell? ⟨B.q, 1, none⟩ = some (.slice (some ⟨B.gm, 0, none⟩) (B.p * 8) B.mc)) := ⟨S0.out.1.keep b3, R3.out.v.cell 3 rfl, R3.out.v.cell 1 rfl⟩
  clear b3
  refine hK.out _ _ S3.out (fun _ => ?_)
  clear hK K
  refine wpAnyH_ready (rs := [22]) (by kernel_rfl) (by simp) ?_
  refine AllReadyH.cons rfl (fun K hK => ?_) AllReadyH.nil
  rw [if_pos (by rfl)]
  go_simp
  refine (z_put R3.out d Rd.out (aluV op (gt H.regs a) (gt H.regs b))).mono ?_
  rintro e x2 ⟨rfl, ⟨r2, b2⟩, m2⟩
  have R2 : Hid (Bs x2 B i o zs (putV H d (aluV op (gt H.regs a) (gt H.regs b))) (-1) (-1)) := r2
  have B2 : Hid (Below B.base w x2) := B3.out.trans b2
  have S2 : Hid (Vb x2 n #[.int .i64 op, .int .i64 (d : Int), .int .i64 (a : Int), .int .i64 (b : Int)] 76 ∧ x2.cell? ⟨B.q, 3, none⟩ = some (.slice (some ⟨B.rg, 0, none⟩) 16 B.rk) ∧ x2.cell? ⟨B.q, 1, none⟩ = some (.slice (some ⟨B.gm, 0, none⟩) (B.p * 8) B.mc)) := ⟨m2.vb S3.out.1 fun e => QN.out.2.1 e, R2.out.v.cell 3 rfl, R2.out.v.cell 1 rfl⟩
  clear r2 b2 m2
  refine hK.out _ _ S2.out (fun _ => ?_)
  clear hK K
  refine wpAnyH_done (by kernel_rfl) ?_ _
  have d4 : x2.cell? ⟨B.q, 4, none⟩ = some (.int .i64 (putV H d (aluV op (gt H.regs a) (gt H.regs b))).pc) := R2.out.v.cell 4 rfl
  have f4 := R2.out.v.free 4
  go_wp2_with fail
  go_ret
  have U := R2.out.fld (G := { putV H d (aluV op (gt H.regs a) (gt H.regs b)) with pc := (addV H.pc 1) }) (ri' := -1) (fa' := -1) 4 (.int .i64 (addV H.pc 1)) rfl rfl rfl rfl rfl
  first | exact ⟨rfl, _, _, U.1, B2.out.trans U.2⟩ | exact ⟨rfl, ⟨_, _, U.1⟩, B2.out.trans U.2⟩
end Go.Proofs.YtimcoobhakfnaaaGreatDoor
namespace Go.Proofs.YtimcoobhakfnaaaGreatDoor
open Go.RowKit
set_option linter.unusedVariables false

def Zp (w w' : World) (B : Bp) (e : Ending) (D : Dr) : Prop := match D.t with
  | none => e = .returned (.bool true) ∧ ∃ i' o', Bs w' B i' o' D.zs { D.H with pc := D.next } D.ri (-1) ∧ Below B.base w w'
  | some (c, t) => e = .returned (.bool false) ∧ ∃ i' o', Bs w' B i' o' D.zs (trapV D.H c t) D.ri c ∧ Below B.base w w'
theorem z_do {w : World} {B : Bp} {i o : Value} {zs : List Int} {H : Ht} (R : Bs w B i o zs H (-1) (-1)) (sn : Sn H B.ps zs B.p) (op : Int) (d a : Nat) (im : Int) (hi : insC op d a im = 0) :
    Calls Tryz.prog 44 #[.pointer (some ⟨B.q, 0, none⟩), .agg #[.int .i64 op, .int .i64 (d : Int), .int .i64 (a : Int), .int .i64 im]] w fun e w' => Zp w w' B e (doV H B.ps zs (-1) op d a im) := by
  have q := ins_parts hi
  have hd : d < 16 := by omega
  have ha : a < 16 := by omega
  by_cases h12 : op = 12
  · subst h12
    exact zd_12 R sn d a hd ha im q.2.2.2.2.2.2.1 q.2.2.2.2.2.2.2.1
  by_cases h13 : op = 13
  · subst h13
    exact zd_13 R sn d a hd ha im q.2.2.2.2.2.2.1 q.2.2.2.2.2.2.2.1
  by_cases h14 : op = 14
  · subst h14
    have e : doV H B.ps zs (-1) 14 d a im = if plC H B.ps zs (addV (gt H.regs a) (offV im)) 1 = 0 then ⟨none, (addV H.pc 1), putV (loadH H B.ps zs (addV (gt H.regs a) (offV im))) d (loadW H B.ps zs (addV (gt H.regs a) (offV im))), zs, (-1)⟩ else ⟨some (3, (addV (gt H.regs a) (offV im))), 0, H, zs, (-1)⟩ := rfl
    rw [e]
    by_cases hz : plC H B.ps zs (addV (gt H.regs a) (offV im)) 1 = 0
    · rw [if_pos hz]; exact zd_14 R sn d a hd ha im q.2.2.2.2.2.2.1 q.2.2.2.2.2.2.2.1 hz
    · rw [if_neg hz]; exact zd_14no R sn d a hd ha im q.2.2.2.2.2.2.1 q.2.2.2.2.2.2.2.1 hz
  by_cases h15 : op = 15
  · subst h15
    have e : doV H B.ps zs (-1) 15 d a im = if plC H B.ps zs (addV (gt H.regs a) (offV im)) 2 = 0 then ⟨none, (addV H.pc 1), storeH H B.ps zs (addV (gt H.regs a) (offV im)) (gt H.regs d), storeZ H B.ps zs (addV (gt H.regs a) (offV im)) (gt H.regs d), storeR H B.ps zs (addV (gt H.regs a) (offV im)) (gt H.regs d) (-1)⟩ else ⟨some (4, (addV (gt H.regs a) (offV im))), 0, H, zs, (-1)⟩ := rfl
    rw [e]
    by_cases hz : plC H B.ps zs (addV (gt H.regs a) (offV im)) 2 = 0
    · rw [if_pos hz]; exact zd_15 R sn d a hd ha im q.2.2.2.2.2.2.1 q.2.2.2.2.2.2.2.1 hz
    · rw [if_neg hz]; exact zd_15no R sn d a hd ha im q.2.2.2.2.2.2.1 q.2.2.2.2.2.2.2.1 hz
  by_cases h16 : op = 16
  · subst h16
    exact zd_16 R sn d a hd ha im q.2.2.2.2.2.2.1 q.2.2.2.2.2.2.2.1
  by_cases h17 : op = 17
  · subst h17
    exact zd_17 R sn d a hd ha im q.2.2.2.2.2.2.1 q.2.2.2.2.2.2.2.1
  by_cases h18 : op = 18
  · subst h18
    exact zd_18 R sn d a hd ha im q.2.2.2.2.2.2.1 q.2.2.2.2.2.2.2.1
  by_cases h19 : op = 19
  · subst h19
    exact zd_19 R sn d a hd ha im q.2.2.2.2.2.2.1 q.2.2.2.2.2.2.2.1
  by_cases h20 : op = 20
  · subst h20
    exact zd_20 R sn d a hd ha im q.2.2.2.2.2.2.1 q.2.2.2.2.2.2.2.1
  by_cases h21 : op = 21
  · subst h21
    exact zd_21 R sn d a hd ha im q.2.2.2.2.2.2.1 q.2.2.2.2.2.2.2.1 (q.2.2.2.2.2.2.2.2.2 (by decide))
  by_cases h22 : op = 22
  · subst h22
    exact zd_22 R sn d a hd ha im q.2.2.2.2.2.2.1 q.2.2.2.2.2.2.2.1 (q.2.2.2.2.2.2.2.2.2 (by decide))
  by_cases h23 : op = 23
  · subst h23
    exact zd_23 R sn d a hd ha im q.2.2.2.2.2.2.1 q.2.2.2.2.2.2.2.1
  by_cases h24 : op = 24
  · subst h24
    exact zd_24 R sn d a hd ha im q.2.2.2.2.2.2.1 q.2.2.2.2.2.2.2.1
  by_cases h25 : op = 25
  · subst h25
    exact zd_25 R sn d a hd ha im q.2.2.2.2.2.2.1 q.2.2.2.2.2.2.2.1
  by_cases h26 : op = 26
  · subst h26
    exact zd_26 R sn d a hd ha im q.2.2.2.2.2.2.1 q.2.2.2.2.2.2.2.1
  obtain ⟨b, rfl⟩ : ∃ b : Nat, im = (b : Int) := ⟨im.toNat, by omega⟩
  have hb : b < 16 := by have := q.2.2.2.2.2.2.2.2.1 (by omega); omega
  have e : doV H B.ps zs (-1) op d a (b : Int) = ⟨none, (addV H.pc 1), putV H d (aluV op (gt H.regs a) (gt H.regs b)), zs, (-1)⟩ := by
    unfold doV
    rw [if_neg h12, if_neg h13, if_neg h14, if_neg h15, if_neg h16, if_neg h17, if_neg h18, if_neg h19, if_neg h20, if_neg h21, if_neg h22, if_neg h23, if_neg h24, if_neg h25, if_neg h26]
    rfl
  rw [e]
  exact zd_alu R sn d a hd ha b hb op ⟨by omega, by omega⟩
def runV (H : Ht) (ps : List (Int × Int)) (zs : List Int) : Ht × List Int × Int × Int :=
  if ¬ plC H ps zs H.pc 4 = 0 then (trapV H 2 H.pc, zs, 2, -1)
  else if ¬ decF (fetZ H ps zs) = 0 then (trapV H 1 (fetZ H ps zs), zs, 1, -1)
  else match doV H ps zs (-1) (fetZ H ps zs / 16777216) (fetZ H ps zs / 1048576 % 16).toNat (fetZ H ps zs / 65536 % 16).toNat (fetZ H ps zs % 65536) with
    | ⟨some (c, t), _, G, ys, rj⟩ => (trapV G c t, ys, c, rj)
    | ⟨none, n, G, ys, rj⟩ => ({ G with pc := n, done := min (G.done + 1) 1000000000 }, ys, -1, rj)
theorem ins_var (x : World) (u0 u1 u2 u3 : Value) : Vb (x.alloc (.cells #[u0, u1, u2, u3] 76)) x.heap.size #[u0, u1, u2, u3] 76 ∧ Below x.heap.size x (x.alloc (.cells #[u0, u1, u2, u3] 76)) := ⟨Vb.new _ _ _, al (Below.refl _ _) _⟩
theorem z_decYes (v : Int) (h : decF v = 0) (w : World) : Calls Tryz.prog 43 #[.int .i64 v] w fun e w' => e = .returned (.tuple #[.agg #[.int .i64 (v / 16777216), .int .i64 (((v / 1048576 % 16).toNat : Nat) : Int), .int .i64 (((v / 65536 % 16).toNat : Nat) : Int), .int .i64 (v % 65536)], .bool true]) ∧ Below w.heap.size w w' := by
  have he := spec_l2Decode v w
  rw [if_pos (dec_in h), h, and15, and15, and65535] at he
  have e1 : (((v / 1048576 % 16).toNat : Nat) : Int) = v / 1048576 % 16 := by omega
  have e2 : (((v / 65536 % 16).toNat : Nat) : Int) = v / 65536 % 16 := by omega
  rw [e1, e2]
  exact he
theorem z_decNo (v : Int) (h : ¬ decF v = 0) : ∃ x0 x1 x2 x3 : Int, ∀ w, Calls Tryz.prog 43 #[.int .i64 v] w fun e w' => e = .returned (.tuple #[.agg #[.int .i64 x0, .int .i64 x1, .int .i64 x2, .int .i64 x3], .bool false]) ∧ Below w.heap.size w w' := by
  have he := fun w => spec_l2Decode v w
  have g : (decF v == 0) = false := beq_eq_false_iff_ne.2 h
  by_cases h' : 0 ≤ v ∧ v ≤ 4294967295
  · rw [if_pos h', g] at he; exact ⟨_, _, _, _, he⟩
  · rw [if_neg h'] at he; exact ⟨_, _, _, _, he⟩
theorem z_min (x y : Int) (w : World) : Calls Tryz.prog 45 #[.int .i64 x, .int .i64 y] w fun e w' => e = .returned (.int .i64 (if x < y then x else y)) ∧ w' = w := by
  by_cases h : x < y
  · rw [if_pos h]
    go_enter Tryz.func45, Tryz.ntmps45
    go_wp2
    go_ret
    exact ⟨rfl, rfl⟩
  · rw [if_neg h]
    go_enter Tryz.func45, Tryz.ntmps45
    go_wp2
    go_ret
    exact ⟨rfl, rfl⟩
set_option maxRecDepth 20000 in
set_option maxHeartbeats 8000000 in
theorem zs_halts {w : World} {B : Bp} {i o : Value} {zs : List Int} {H : Ht} {ri fa : Int} (R : Bs w B i o zs H ri fa) (sn : Sn H B.ps zs B.p) (hh : H.halted = true) :
    Calls Tryz.prog 20 #[.pointer (some ⟨B.q, 0, none⟩)] w fun e w' => e = .returned (.tuple #[]) ∧ ∃ i' o', Bs w' B i' o' (stepV H B.ps zs (-1) (-1)).2.1 (stepV H B.ps zs (-1) (-1)).1 (stepV H B.ps zs (-1) (-1)).2.2.2 (stepV H B.ps zs (-1) (-1)).2.2.1 ∧ Below B.base w w' := by
  have hv : (stepV H B.ps zs (-1) (-1)) = (H, zs, -1, -1) := if_pos hh
  rw [hv]
  have HH : Hid (H.halted = true) := hh
  clear hv hh
  have d2 : w.cell? ⟨B.q, 2, none⟩ = some (.int .i64 ri) := R.v.cell 2 rfl
  have g2 := R.v.free 2
  have U1 := R.fld (G := H) (ri' := -1) (fa' := fa) 2 (.int .i64 (-1)) rfl rfl rfl rfl rfl
  have d12 : w.cell? ⟨B.q, 12, none⟩ = some (.int .i64 fa) := R.v.cell 12 rfl
  have g12 := R.v.free 12
  have U2 := U1.1.fld (G := H) (ri' := -1) (fa' := -1) 12 (.int .i64 (-1)) rfl rfl rfl rfl rfl
  have R0 : Hid (Bs ((w.setCell ⟨B.q, 2, none⟩ (.int .i64 (-1))).setCell ⟨B.q, 12, none⟩ (.int .i64 (-1))) B i o zs H (-1) (-1)) := U2.1
  have B0 : Hid (Below B.base w ((w.setCell ⟨B.q, 2, none⟩ (.int .i64 (-1))).setCell ⟨B.q, 12, none⟩ (.int .i64 (-1)))) := U1.2.trans U2.2
  have SN : Hid (Sn H B.ps zs B.p) := sn
  clear U1 U2 R sn
  go_enter Tryz.func20, Tryz.ntmps20
  go_upto_region 3 with fail
  clear d2 g2 d12 g12
  generalize (w.setCell ⟨B.q, 2, none⟩ (.int .i64 (-1))).setCell ⟨B.q, 12, none⟩ (.int .i64 (-1)) = x0 at *
  have d6 : x0.cell? ⟨B.q, 6, none⟩ = some (.bool H.halted) := R0.out.v.cell 6 rfl
  rw [HH.out] at d6
  go_wp2_with fail
  exact bodyPost_ret (results_none rfl _ _ _) rfl ⟨rfl, _, _, R0.out, B0.out⟩
set_option maxRecDepth 20000 in
set_option maxHeartbeats 8000000 in
theorem zs_due {w : World} {B : Bp} {i o : Value} {zs : List Int} {H : Ht} {ri fa : Int} (R : Bs w B i o zs H ri fa) (sn : Sn H B.ps zs B.p) (hh : H.halted = false) (hd : ¬ dueV H < 0) :
    Calls Tryz.prog 20 #[.pointer (some ⟨B.q, 0, none⟩)] w fun e w' => e = .returned (.tuple #[]) ∧ ∃ i' o', Bs w' B i' o' (stepV H B.ps zs (-1) (-1)).2.1 (stepV H B.ps zs (-1) (-1)).1 (stepV H B.ps zs (-1) (-1)).2.2.2 (stepV H B.ps zs (-1) (-1)).2.2.1 ∧ Below B.base w w' := by
  have hv : (stepV H B.ps zs (-1) (-1)) = (trapV H (16 + dueV H) 0, zs, 16 + dueV H, -1) := by unfold stepV; rw [if_neg (by simp [hh]), if_pos hd]
  rw [hv]
  have HH : Hid (H.halted = false) := hh
  have dl := due_le H
  obtain ⟨dv, hdv⟩ : ∃ v, dueV H = v := ⟨_, rfl⟩
  have HD : Hid (dueV H = dv) := hdv
  rw [hdv] at dl hd ⊢
  clear hv hh hdv
  have hd0 : 0 ≤ dv := by omega
  have d2 : w.cell? ⟨B.q, 2, none⟩ = some (.int .i64 ri) := R.v.cell 2 rfl
  have g2 := R.v.free 2
  have U1 := R.fld (G := H) (ri' := -1) (fa' := fa) 2 (.int .i64 (-1)) rfl rfl rfl rfl rfl
  have d12 : w.cell? ⟨B.q, 12, none⟩ = some (.int .i64 fa) := R.v.cell 12 rfl
  have g12 := R.v.free 12
  have U2 := U1.1.fld (G := H) (ri' := -1) (fa' := -1) 12 (.int .i64 (-1)) rfl rfl rfl rfl rfl
  have R0 : Hid (Bs ((w.setCell ⟨B.q, 2, none⟩ (.int .i64 (-1))).setCell ⟨B.q, 12, none⟩ (.int .i64 (-1))) B i o zs H (-1) (-1)) := U2.1
  have B0 : Hid (Below B.base w ((w.setCell ⟨B.q, 2, none⟩ (.int .i64 (-1))).setCell ⟨B.q, 12, none⟩ (.int .i64 (-1)))) := U1.2.trans U2.2
  have SN : Hid (Sn H B.ps zs B.p) := sn
  clear U1 U2 R sn
  go_enter Tryz.func20, Tryz.ntmps20
  go_upto_region 3 with fail
  clear d2 g2 d12 g12
  generalize (w.setCell ⟨B.q, 2, none⟩ (.int .i64 (-1))).setCell ⟨B.q, 12, none⟩ (.int .i64 (-1)) = x0 at *
  have d6 : x0.cell? ⟨B.q, 6, none⟩ = some (.bool H.halted) := R0.out.v.cell 6 rfl
  rw [HH.out] at d6
  go_wp2_with (go_at_call 39; refine (z_due R0.out SN.out.hok).mono ?_; rintro e x1 ⟨rfl, b1⟩; rw [HD.out])
  have R1 : Hid (Bs x1 B i o zs H (-1) (-1)) := R0.out.keep b1
  have B1 : Hid (Below B.base w x1) := B0.out.trans (bless b1 R0.out.size)
  clear b1
  refine (z_fall R1.out SN.out.hok (16 + dv) 0).mono ?_
  rintro e x2 ⟨rfl, r2, b2⟩
  have R2 : Hid (Bs x2 B i o zs (trapV H (16 + dv) 0) (-1) (16 + dv) ∧ Below B.base w x2) := ⟨r2, B1.out.trans b2⟩
  clear r2 b2
  go_wp2_with fail
  exact bodyPost_ret (results_none rfl _ _ _) rfl ⟨rfl, _, _, R2.out.1, R2.out.2⟩
set_option maxRecDepth 20000 in
set_option maxHeartbeats 8000000 in
theorem zs_waits {w : World} {B : Bp} {i o : Value} {zs : List Int} {H : Ht} {ri fa : Int} (R : Bs w B i o zs H ri fa) (sn : Sn H B.ps zs B.p) (hh : H.halted = false) (hd : dueV H < 0) (hw : H.waiting = true) (hb0 : bothV H = 0) :
    Calls Tryz.prog 20 #[.pointer (some ⟨B.q, 0, none⟩)] w fun e w' => e = .returned (.tuple #[]) ∧ ∃ i' o', Bs w' B i' o' (stepV H B.ps zs (-1) (-1)).2.1 (stepV H B.ps zs (-1) (-1)).1 (stepV H B.ps zs (-1) (-1)).2.2.2 (stepV H B.ps zs (-1) (-1)).2.2.1 ∧ Below B.base w w' := by
  have hv : (stepV H B.ps zs (-1) (-1)) = (H, zs, -1, -1) := by
    have e : waitV H = H := by cases H; simp_all [waitV]
    unfold stepV
    rw [if_neg (by simp [hh]), if_neg (by simpa using hd), e, if_pos hw]
  rw [hv]
  have HH : Hid (H.halted = false) := hh
  have HW : Hid (H.waiting = true) := hw
  obtain ⟨dv, hdv⟩ : ∃ v, dueV H = v := ⟨_, rfl⟩
  have HD : Hid (dueV H = dv) := hdv
  rw [hdv] at hd
  have hd0 : ¬ 0 ≤ dv := by omega
  clear hdv hd
  have be := both_eq H (all_at sn.hok.cw 7).1 (all_at sn.hok.cw 7).2
  obtain ⟨g7, hg7⟩ : ∃ g, gt H.csr 7 = g := ⟨_, rfl⟩
  obtain ⟨pv, hp⟩ : ∃ g, pendV H = g := ⟨_, rfl⟩
  obtain ⟨bv, hb⟩ : ∃ g, bothV H = g := ⟨_, rfl⟩
  have HG7 : Hid (gt H.csr 7 = g7) := hg7
  have HPV : Hid (pendV H = pv) := hp
  rw [hg7, hp, hb] at be
  have BE : Hid (bits BinOp.and IntKind.i64 pv g7 = bv) := be
  rw [hb] at hb0
  have BQ : Hid ((bv == 0) = true) := by show _ = _; simpa using hb0
  clear hg7 hp hb be hb0
  clear hv hh hw
  have d2 : w.cell? ⟨B.q, 2, none⟩ = some (.int .i64 ri) := R.v.cell 2 rfl
  have g2 := R.v.free 2
  have U1 := R.fld (G := H) (ri' := -1) (fa' := fa) 2 (.int .i64 (-1)) rfl rfl rfl rfl rfl
  have d12 : w.cell? ⟨B.q, 12, none⟩ = some (.int .i64 fa) := R.v.cell 12 rfl
  have g12 := R.v.free 12
  have U2 := U1.1.fld (G := H) (ri' := -1) (fa' := -1) 12 (.int .i64 (-1)) rfl rfl rfl rfl rfl
  have R0 : Hid (Bs ((w.setCell ⟨B.q, 2, none⟩ (.int .i64 (-1))).setCell ⟨B.q, 12, none⟩ (.int .i64 (-1))) B i o zs H (-1) (-1)) := U2.1
  have B0 : Hid (Below B.base w ((w.setCell ⟨B.q, 2, none⟩ (.int .i64 (-1))).setCell ⟨B.q, 12, none⟩ (.int .i64 (-1)))) := U1.2.trans U2.2
  have SN : Hid (Sn H B.ps zs B.p) := sn
  clear U1 U2 R sn
  go_enter Tryz.func20, Tryz.ntmps20
  go_upto_region 3 with fail
  clear d2 g2 d12 g12
  generalize (w.setCell ⟨B.q, 2, none⟩ (.int .i64 (-1))).setCell ⟨B.q, 12, none⟩ (.int .i64 (-1)) = x0 at *
  have d6 : x0.cell? ⟨B.q, 6, none⟩ = some (.bool H.halted) := R0.out.v.cell 6 rfl
  rw [HH.out] at d6
  go_upto_region 7 with (go_at_call 39; refine (z_due R0.out SN.out.hok).mono ?_; rintro e x1 ⟨rfl, b1⟩; rw [HD.out]; have R1 : Hid (Bs x1 B i o zs H (-1) (-1)) := R0.out.keep b1; have B1 : Hid (Below B.base w x1) := B0.out.trans (bless b1 R0.out.size); clear b1 d6)
  have c7w : x1.cell? ⟨B.q, 7, none⟩ = some (.bool true) := by rw [← HW.out]; exact R1.out.v.cell 7 rfl
  go_upto_region 8 with fail
  clear c7w
  have S1 : Hid (x1.drew.cell? ⟨B.q, 5, none⟩ = some (.slice (some ⟨B.cg, 0, none⟩) 11 B.ck) ∧ x1.drew.cell? ⟨B.cg, 7, none⟩ = some (.int .i64 g7)) := ⟨R1.out.v.cell 5 rfl, by rw [← HG7.out]; exact R1.out.hc.cell R1.out.hc.len 7 (by decide)⟩
  replace R1 := hid_dr R1
  replace B1 := hid_bd B1
  refine wp_region_held (S := fun w' => w'.cell? ⟨B.q, 5, none⟩ = some (.slice (some ⟨B.cg, 0, none⟩) 11 B.ck) ∧ w'.cell? ⟨B.cg, 7, none⟩ = some (.int .i64 g7)) (by kernel_rfl) ?_
  change wpAnyH _ _ _ _ _ _ _ _ (World.drew _)
  generalize x1.drew = x1' at *
  refine tk (i := 0) (v := .pointer (some ⟨B.q, 3, none⟩)) rfl (Or.inl ⟨by rfl, fun w' hs => by go_simp⟩) S1.out ?_
  change wpAnyH _ _ _ _ _ _ _ (Act.put _ (some 33) _) _
  simp only [Act.put, List.setIfInBounds_toArray, List.set_cons_zero, List.set_cons_succ]
  refine tk (i := 2) (v := .pointer (some ⟨B.q, 3, none⟩)) rfl (Or.inl ⟨by rfl, fun w' hs => by go_simp⟩) S1.out ?_
  change wpAnyH _ _ _ _ _ _ _ (Act.put _ (some 35) _) _
  simp only [Act.put, List.setIfInBounds_toArray, List.set_cons_zero, List.set_cons_succ]
  refine tk (i := 3) (v := .pointer (some ⟨B.q, 3, none⟩)) rfl (Or.inl ⟨by rfl, fun w' hs => by go_simp⟩) S1.out ?_
  change wpAnyH _ _ _ _ _ _ _ (Act.put _ (some 36) _) _
  simp only [Act.put, List.setIfInBounds_toArray, List.set_cons_zero, List.set_cons_succ]
  refine tk (i := 4) (v := .pointer (some ⟨B.q, 5, none⟩)) rfl (Or.inl ⟨by rfl, fun w' hs => by go_simp⟩) S1.out ?_
  change wpAnyH _ _ _ _ _ _ _ (Act.put _ (some 37) _) _
  simp only [Act.put, List.setIfInBounds_toArray, List.set_cons_zero, List.set_cons_succ]
  refine tk (i := 5) (v := .slice (some ⟨B.cg, 0, none⟩) 11 B.ck) rfl (Or.inl ⟨by rfl, fun w' hs => by have hc := hs.1; go_simp⟩) S1.out ?_
  change wpAnyH _ _ _ _ _ _ _ (Act.put _ (some 38) _) _
  simp only [Act.put, List.setIfInBounds_toArray, List.set_cons_zero, List.set_cons_succ]
  refine tk (i := 6) (v := .pointer (some ⟨B.cg, 7, none⟩)) rfl (Or.inl ⟨by rfl, fun w' hs => by go_simp⟩) S1.out ?_
  change wpAnyH _ _ _ _ _ _ _ (Act.put _ (some 39) _) _
  simp only [Act.put, List.setIfInBounds_toArray, List.set_cons_zero, List.set_cons_succ]
  refine tk (i := 7) (v := .int .i64 g7) rfl (Or.inl ⟨by rfl, fun w' hs => by have hc := hs.2; go_simp⟩) S1.out ?_
  change wpAnyH _ _ _ _ _ _ _ (Act.put _ (some 40) _) _
  simp only [Act.put, List.setIfInBounds_toArray, List.set_cons_zero, List.set_cons_succ]
  refine wpAnyH_ready (rs := [1]) (by kernel_rfl) (by simp) ?_
  refine AllReadyH.cons rfl (fun K hK => ?_) AllReadyH.nil
  rw [if_pos (by rfl)]
  go_simp
  refine (z_pending R1.out).mono ?_
  rw [HPV.out]
  rintro e x2 ⟨rfl, b2⟩
  have R2 : Hid (Bs x2 B i o zs H (-1) (-1)) := R1.out.keep b2
  have B2 : Hid (Below B.base w x2) := B1.out.trans (bless b2 R1.out.size)
  have S2 : Hid (x2.cell? ⟨B.q, 5, none⟩ = some (.slice (some ⟨B.cg, 0, none⟩) 11 B.ck) ∧ x2.cell? ⟨B.cg, 7, none⟩ = some (.int .i64 g7)) := ⟨R2.out.v.cell 5 rfl, by rw [← HG7.out]; exact R2.out.hc.cell R2.out.hc.len 7 (by decide)⟩
  clear b2
  refine hK.out _ _ S2.out (fun _ => ?_)
  clear hK K
  refine tk (i := 8) (v := .int .i64 bv) rfl (Or.inl ⟨by rfl, fun w' hs => by have hc := BE.out; go_simp⟩) S2.out ?_
  change wpAnyH _ _ _ _ _ _ _ (Act.put _ (some 41) _) _
  simp only [Act.put, List.setIfInBounds_toArray, List.set_cons_zero, List.set_cons_succ]
  refine tk (i := 9) (v := .bool true) rfl (Or.inl ⟨by rfl, fun w' hs => by have hc := BQ.out; go_simp⟩) S2.out ?_
  change wpAnyH _ _ _ _ _ _ _ (Act.put _ (some 42) _) _
  simp only [Act.put, List.setIfInBounds_toArray, List.set_cons_zero, List.set_cons_succ]
  refine wpAnyH_done (by kernel_rfl) ?_ _
  go_wp2_with fail
  exact bodyPost_ret (results_none rfl _ _ _) rfl ⟨rfl, _, _, R2.out, B2.out⟩
set_option maxRecDepth 20000 in
set_option maxHeartbeats 8000000 in
theorem zs_run {w : World} {B : Bp} {i o : Value} {zs : List Int} {H : Ht} {ri fa : Int} (R : Bs w B i o zs H ri fa) (sn : Sn H B.ps zs B.p) (hh : H.halted = false) (hd : dueV H < 0) (hw : H.waiting = false) :
    Calls Tryz.prog 20 #[.pointer (some ⟨B.q, 0, none⟩)] w fun e w' => e = .returned (.tuple #[]) ∧ ∃ i' o', Bs w' B i' o' (stepV H B.ps zs (-1) (-1)).2.1 (stepV H B.ps zs (-1) (-1)).1 (stepV H B.ps zs (-1) (-1)).2.2.2 (stepV H B.ps zs (-1) (-1)).2.2.1 ∧ Below B.base w w' := by
  obtain ⟨G, hG⟩ : ∃ G, waitV H = G := ⟨_, rfl⟩
  have eG : H = G := by rw [← hG]; cases H; simp_all [waitV]
  have gw : G.waiting = false := by rw [← eG]; exact hw
  have gp : G.pc = H.pc := by rw [← eG]
  obtain ⟨Z, hZ⟩ : ∃ Z, (stepV H B.ps zs (-1) (-1)) = Z := ⟨_, rfl⟩
  have E0 : Hid (Z = runV G B.ps zs) := by
    show _ = _
    rw [← hZ]
    unfold stepV runV
    rw [if_neg (by simp [hh]), if_neg (by simpa using hd), hG, if_neg (by simp [gw]), gp]
    rfl
  rw [hZ]
  clear hZ
  have SG : Hid (Sn G B.ps zs B.p) := by show Sn _ _ _ _; rw [← hG]; exact waitV_sn sn
  have PC : Hid (G.pc = H.pc) := gp
  have HH : Hid (H.halted = false) := hh
  have HW : Hid (H.waiting = false) := hw
  have EG : Hid (H = G) := eG
  obtain ⟨dv, hdv⟩ : ∃ v, dueV H = v := ⟨_, rfl⟩
  have HD : Hid (dueV H = dv) := hdv
  rw [hdv] at hd
  have hd0 : ¬ 0 ≤ dv := by omega
  clear hdv hd
  clear hh hw hG gw gp eG
  have d2 : w.cell? ⟨B.q, 2, none⟩ = some (.int .i64 ri) := R.v.cell 2 rfl
  have g2 := R.v.free 2
  have U1 := R.fld (G := H) (ri' := -1) (fa' := fa) 2 (.int .i64 (-1)) rfl rfl rfl rfl rfl
  have d12 : w.cell? ⟨B.q, 12, none⟩ = some (.int .i64 fa) := R.v.cell 12 rfl
  have g12 := R.v.free 12
  have U2 := U1.1.fld (G := H) (ri' := -1) (fa' := -1) 12 (.int .i64 (-1)) rfl rfl rfl rfl rfl
  have R0 : Hid (Bs ((w.setCell ⟨B.q, 2, none⟩ (.int .i64 (-1))).setCell ⟨B.q, 12, none⟩ (.int .i64 (-1))) B i o zs H (-1) (-1)) := U2.1
  have B0 : Hid (Below B.base w ((w.setCell ⟨B.q, 2, none⟩ (.int .i64 (-1))).setCell ⟨B.q, 12, none⟩ (.int .i64 (-1)))) := U1.2.trans U2.2
  have SN : Hid (Sn H B.ps zs B.p) := sn
  clear U1 U2 R sn
  go_enter Tryz.func20, Tryz.ntmps20
  go_upto_region 3 with fail
  clear d2 g2 d12 g12
  generalize (w.setCell ⟨B.q, 2, none⟩ (.int .i64 (-1))).setCell ⟨B.q, 12, none⟩ (.int .i64 (-1)) = x0 at *
  have d6 : x0.cell? ⟨B.q, 6, none⟩ = some (.bool H.halted) := R0.out.v.cell 6 rfl
  rw [HH.out] at d6
  go_upto_region 7 with (go_at_call 39; refine (z_due R0.out SN.out.hok).mono ?_; rintro e x1 ⟨rfl, b1⟩; rw [HD.out]; have R1 : Hid (Bs x1 B i o zs H (-1) (-1)) := R0.out.keep b1; have B1 : Hid (Below B.base w x1) := B0.out.trans (bless b1 R0.out.size); clear b1 d6)
  have c7w : x1.cell? ⟨B.q, 7, none⟩ = some (.bool false) := by rw [← HW.out]; exact R1.out.v.cell 7 rfl
  go_upto_region 10 with fail
  clear c7w
  have R3 : Hid (Bs x1 B i o zs G (-1) (-1)) := by show Bs _ _ _ _ _ _ _ _; rw [← EG.out]; exact R1.out
  have B3 := B1
  clear R1 B1 EG HD
  generalize x1 = x3 at *
  have c4 : x3.cell? ⟨B.q, 4, none⟩ = some (.int .i64 H.pc) := by rw [← PC.out]; exact R3.out.v.cell 4 rfl
  have PS := fun x => z_space R3.out SG.out x 4 rfl
  by_cases hz : plC G B.ps zs H.pc 4 = 0
  · have PZ : Hid (plC G B.ps zs H.pc 4 = 0) := hz
    obtain ⟨tn, htn, htp⟩ := pl_run (show Sn G B.ps zs B.p from SG.out) (x := H.pc) hz
    have PV : Hid (plV G B.ps zs H.pc 4 = (tn : Int)) := htn
    have Rt : Hid (tn < B.p * 8) := htp
    have hti : (tn : Int) < ((B.p * 8 : Nat) : Int) := by omega
    have FZ : Hid (fetZ G B.ps zs = zs.getD tn 0) := by show _ = _; unfold fetZ; rw [PC.out, PV.out]; rfl
    obtain ⟨z, hzz⟩ : ∃ z, zs.getD tn 0 = z := ⟨_, rfl⟩
    have ZZ : Hid (zs.getD tn 0 = z) := hzz
    have EZ : Hid (fetZ G B.ps zs = z) := FZ.out.trans hzz
    clear hz htn htp hzz FZ
    go_upto_region 13 with (go_at_call 42; refine (PS _).mono ?_; rintro e x5 ⟨rfl, b5⟩; rw [PZ.out, PV.out]; have R5 : Hid (Bs x5 B i o zs G (-1) (-1)) := R3.out.keep b5; have B5 : Hid (Below B.base w x5) := B3.out.trans (bless b5 R3.out.size); clear b5 c4 PS)
    have c1 : x5.cell? ⟨B.q, 1, none⟩ = some (.slice (some ⟨B.gm, 0, none⟩) (B.p * 8) B.mc) := R5.out.v.cell 1 rfl
    have ct : x5.cell? ⟨B.gm, tn, none⟩ = some (.int .i64 z) := by rw [← ZZ.out]; exact R5.out.hm.cell R5.out.hm.len tn Rt.out
    by_cases hf : decF z = 0
    · have DY := fun w => z_decYes z hf w
      have HF : Hid (decF z = 0) := hf
      have FP : Hid (_ = _) := fet_parts hf
      clear hf
      obtain ⟨d, hd1⟩ : ∃ d, (z / 1048576 % 16).toNat = d := ⟨_, rfl⟩
      obtain ⟨a, ha1⟩ : ∃ a, (z / 65536 % 16).toNat = a := ⟨_, rfl⟩
      obtain ⟨op, ho1⟩ : ∃ op, z / 16777216 = op := ⟨_, rfl⟩
      obtain ⟨im, hi1⟩ : ∃ im, z % 65536 = im := ⟨_, rfl⟩
      have ID : Hid ((z / 1048576 % 16).toNat = d ∧ (z / 65536 % 16).toNat = a ∧ z / 16777216 = op ∧ z % 65536 = im) := ⟨hd1, ha1, ho1, hi1⟩
      rw [hd1, ha1, ho1, hi1] at FP
      rw [hd1, ha1, ho1, hi1] at DY
      clear hd1 ha1 ho1 hi1
      go_upto_region 14 with (go_at_call 43; refine (DY _).mono ?_; rintro e x6 ⟨rfl, b6⟩; have R6 : Hid (Bs x6 B i o zs G (-1) (-1)) := R5.out.keep b6; have B6 : Hid (Below B.base w x6) := B5.out.trans (bless b6 R5.out.size); clear b6 c1 ct DY)
      have VV : Hid (_ ∧ _) := ins_var x6 (.int .i64 op) (.int .i64 (d : Int)) (.int .i64 (a : Int)) (.int .i64 im)
      generalize x6.alloc (.cells #[.int .i64 op, .int .i64 (d : Int), .int .i64 (a : Int), .int .i64 im] 76) = x7 at *
      have R7 : Hid (Bs x7 B i o zs G (-1) (-1)) := R6.out.keep VV.out.2
      have B7 : Hid (Below B.base w x7) := B6.out.trans (bless VV.out.2 R6.out.size)
      have n0 := VV.out.1.cell 0 rfl
      have n1 := VV.out.1.cell 1 rfl
      have n2 := VV.out.1.cell 2 rfl
      have n3 := VV.out.1.cell 3 rfl
      go_wp2_with fail
      refine (z_do R7.out SG.out op d a im FP.out).mono ?_
      intro e x8 hzp
      have SD := doV_sn SG.out (-1) op d a im FP.out
      have ER : Hid (Z = (match doV G B.ps zs (-1) op d a im with
        | ⟨some (c, t), _, G, ys, rj⟩ => (trapV G c t, ys, c, rj)
        | ⟨none, n, G, ys, rj⟩ => ({ G with pc := n, done := min (G.done + 1) 1000000000 }, ys, -1, rj))) := by
        show _ = _
        rw [E0.out]
        unfold runV
        rw [PC.out, if_neg (by simp [PZ.out]), EZ.out, if_neg (by simp [HF.out]), ID.out.1, ID.out.2.1, ID.out.2.2.1, ID.out.2.2.2]
      generalize doV G B.ps zs (-1) op d a im = D at *
      obtain ⟨t, nx, G2, ys, rj⟩ := D
      clear n0 n1 n2 n3
      cases t with
      | none =>
        obtain ⟨rfl, i8, o8, r8, b8⟩ := hzp
        have R8 : Hid (Bs x8 B i8 o8 ys { G2 with pc := nx } rj (-1)) := r8
        have B8 : Hid (Below B.base w x8) := B7.out.trans b8
        have DB : 0 ≤ G2.done ∧ G2.done ≤ 1000000000 := ⟨SD.hok.d0, SD.hok.d9⟩
        clear r8 b8 SD
        have d9 : x8.cell? ⟨B.q, 9, none⟩ = some (.int .i64 G2.done) := R8.out.v.cell 9 rfl
        have f9 := R8.out.v.free 9
        have MN : Hid ((if 1000000000 < G2.done + 1 then 1000000000 else G2.done + 1) = min (G2.done + 1) 1000000000) := by show _ = _; split <;> omega
        go_wp2_with (go_at_call 45; refine (z_min _ _ _).mono ?_; rintro e y ⟨rfl, hy⟩; rw [hy]; clear hy y; rw [MN.out])
        go_end0
        have U := R8.out.fld (G := { G2 with pc := nx, done := min (G2.done + 1) 1000000000 }) (ri' := rj) (fa' := -1) 9 (.int .i64 (min (G2.done + 1) 1000000000)) rfl rfl rfl rfl rfl
        exact ⟨rfl, _, _, by rw [ER.out]; exact U.1, B8.out.trans U.2⟩
      | some ct =>
        obtain ⟨c, t⟩ := ct
        obtain ⟨rfl, i8, o8, r8, b8⟩ := hzp
        have R8 : Hid (Bs x8 B i8 o8 ys (trapV G2 c t) rj c) := r8
        have B8 : Hid (Below B.base w x8) := B7.out.trans b8
        clear r8 b8 SD
        go_wp2_with fail
        go_end0
        exact ⟨rfl, _, _, by rw [ER.out]; exact R8.out, B8.out⟩
    · obtain ⟨y0, y1, y2, y3, DN⟩ := z_decNo z hf
      have HF : Hid (¬ decF z = 0) := hf
      clear hf
      go_upto_region 14 with (go_at_call 43; refine (DN _).mono ?_; rintro e x6 ⟨rfl, b6⟩; have R6 : Hid (Bs x6 B i o zs G (-1) (-1)) := R5.out.keep b6; have B6 : Hid (Below B.base w x6) := B5.out.trans (bless b6 R5.out.size); clear b6 c1 ct DN)
      have VV : Hid (_ ∧ _) := ins_var x6 (.int .i64 y0) (.int .i64 y1) (.int .i64 y2) (.int .i64 y3)
      generalize x6.alloc (.cells #[.int .i64 y0, .int .i64 y1, .int .i64 y2, .int .i64 y3] 76) = x7 at *
      have R7 : Hid (Bs x7 B i o zs G (-1) (-1)) := R6.out.keep VV.out.2
      have B7 : Hid (Below B.base w x7) := B6.out.trans (bless VV.out.2 R6.out.size)
      have c1 : x7.cell? ⟨B.q, 1, none⟩ = some (.slice (some ⟨B.gm, 0, none⟩) (B.p * 8) B.mc) := R7.out.v.cell 1 rfl
      have ct : x7.cell? ⟨B.gm, tn, none⟩ = some (.int .i64 z) := by rw [← ZZ.out]; exact R7.out.hm.cell R7.out.hm.len tn Rt.out
      go_wp2_with fail
      refine (z_fall R7.out SG.out.hok 1 z).mono ?_
      rintro e x8 ⟨rfl, r8, b8⟩
      have R8 : Hid (Bs x8 B i o zs (trapV G 1 z) (-1) 1 ∧ Below B.base w x8) := ⟨r8, B7.out.trans b8⟩
      clear r8 b8 c1 ct
      have ER : Hid (Z = (trapV G 1 z, zs, 1, -1)) := by
        show _ = _
        rw [E0.out]
        unfold runV
        rw [PC.out, if_neg (by simp [PZ.out]), EZ.out, if_pos HF.out]
      go_wp2_with fail
      exact bodyPost_ret (results_none rfl _ _ _) rfl ⟨rfl, _, _, by rw [ER.out]; exact R8.out.1, R8.out.2⟩
  · obtain ⟨pk, hpk⟩ : ∃ v, plC G B.ps zs H.pc 4 = v := ⟨_, rfl⟩
    obtain ⟨pv2, hpv⟩ : ∃ v, plV G B.ps zs H.pc 4 = v := ⟨_, rfl⟩
    have PK : Hid (plC G B.ps zs H.pc 4 = pk) := hpk
    have PV : Hid (plV G B.ps zs H.pc 4 = pv2) := hpv
    have PZ : Hid (¬ plC G B.ps zs H.pc 4 = 0) := hz
    rw [hpk] at hz
    have hk : (pk != 0) = true := by simpa using hz
    clear hz hpk hpv
    go_upto_region 12 with (go_at_call 42; refine (PS _).mono ?_; rintro e x5 ⟨rfl, b5⟩; rw [PK.out, PV.out]; have R5 : Hid (Bs x5 B i o zs G (-1) (-1)) := R3.out.keep b5; have B5 : Hid (Below B.base w x5) := B3.out.trans (bless b5 R3.out.size); clear b5 c4 PS)
    have c4 : x5.cell? ⟨B.q, 4, none⟩ = some (.int .i64 H.pc) := by rw [← PC.out]; exact R5.out.v.cell 4 rfl
    go_wp2_with fail
    refine (z_fall R5.out SG.out.hok 2 H.pc).mono ?_
    rintro e x8 ⟨rfl, r8, b8⟩
    have R8 : Hid (Bs x8 B i o zs (trapV G 2 H.pc) (-1) 2 ∧ Below B.base w x8) := ⟨r8, B5.out.trans b8⟩
    clear r8 b8 c4
    have ER : Hid (Z = (trapV G 2 H.pc, zs, 2, -1)) := by
      show _ = _
      rw [E0.out]
      unfold runV
      rw [PC.out, if_pos PZ.out]
    go_wp2_with fail
    exact bodyPost_ret (results_none rfl _ _ _) rfl ⟨rfl, _, _, by rw [ER.out]; exact R8.out.1, R8.out.2⟩
set_option maxRecDepth 20000 in
set_option maxHeartbeats 8000000 in
theorem zs_wake {w : World} {B : Bp} {i o : Value} {zs : List Int} {H : Ht} {ri fa : Int} (R : Bs w B i o zs H ri fa) (sn : Sn H B.ps zs B.p) (hh : H.halted = false) (hd : dueV H < 0) (hw : H.waiting = true) (hb0 : ¬ bothV H = 0) :
    Calls Tryz.prog 20 #[.pointer (some ⟨B.q, 0, none⟩)] w fun e w' => e = .returned (.tuple #[]) ∧ ∃ i' o', Bs w' B i' o' (stepV H B.ps zs (-1) (-1)).2.1 (stepV H B.ps zs (-1) (-1)).1 (stepV H B.ps zs (-1) (-1)).2.2.2 (stepV H B.ps zs (-1) (-1)).2.2.1 ∧ Below B.base w w' := by
  obtain ⟨G, hG⟩ : ∃ G, waitV H = G := ⟨_, rfl⟩
  have eG : { H with waiting := false } = G := by rw [← hG]; cases H; simp_all [waitV]
  have gw : G.waiting = false := by rw [← eG]
  have gp : G.pc = H.pc := by rw [← eG]
  obtain ⟨Z, hZ⟩ : ∃ Z, (stepV H B.ps zs (-1) (-1)) = Z := ⟨_, rfl⟩
  have E0 : Hid (Z = runV G B.ps zs) := by
    show _ = _
    rw [← hZ]
    unfold stepV runV
    rw [if_neg (by simp [hh]), if_neg (by simpa using hd), hG, if_neg (by simp [gw]), gp]
    rfl
  rw [hZ]
  clear hZ
  have SG : Hid (Sn G B.ps zs B.p) := by show Sn _ _ _ _; rw [← hG]; exact waitV_sn sn
  have PC : Hid (G.pc = H.pc) := gp
  have HH : Hid (H.halted = false) := hh
  have HW : Hid (H.waiting = true) := hw
  have EG : Hid ({ H with waiting := false } = G) := eG
  obtain ⟨dv, hdv⟩ : ∃ v, dueV H = v := ⟨_, rfl⟩
  have HD : Hid (dueV H = dv) := hdv
  rw [hdv] at hd
  have hd0 : ¬ 0 ≤ dv := by omega
  clear hdv hd
  have be := both_eq H (all_at sn.hok.cw 7).1 (all_at sn.hok.cw 7).2
  obtain ⟨g7, hg7⟩ : ∃ g, gt H.csr 7 = g := ⟨_, rfl⟩
  obtain ⟨pv, hp⟩ : ∃ g, pendV H = g := ⟨_, rfl⟩
  obtain ⟨bv, hb⟩ : ∃ g, bothV H = g := ⟨_, rfl⟩
  have HG7 : Hid (gt H.csr 7 = g7) := hg7
  have HPV : Hid (pendV H = pv) := hp
  rw [hg7, hp, hb] at be
  have BE : Hid (bits BinOp.and IntKind.i64 pv g7 = bv) := be
  rw [hb] at hb0
  have BQ : Hid ((bv == 0) = false) := by show _ = _; simpa using hb0
  clear hg7 hp hb be hb0
  clear hh hw hG gw gp eG
  have d2 : w.cell? ⟨B.q, 2, none⟩ = some (.int .i64 ri) := R.v.cell 2 rfl
  have g2 := R.v.free 2
  have U1 := R.fld (G := H) (ri' := -1) (fa' := fa) 2 (.int .i64 (-1)) rfl rfl rfl rfl rfl
  have d12 : w.cell? ⟨B.q, 12, none⟩ = some (.int .i64 fa) := R.v.cell 12 rfl
  have g12 := R.v.free 12
  have U2 := U1.1.fld (G := H) (ri' := -1) (fa' := -1) 12 (.int .i64 (-1)) rfl rfl rfl rfl rfl
  have R0 : Hid (Bs ((w.setCell ⟨B.q, 2, none⟩ (.int .i64 (-1))).setCell ⟨B.q, 12, none⟩ (.int .i64 (-1))) B i o zs H (-1) (-1)) := U2.1
  have B0 : Hid (Below B.base w ((w.setCell ⟨B.q, 2, none⟩ (.int .i64 (-1))).setCell ⟨B.q, 12, none⟩ (.int .i64 (-1)))) := U1.2.trans U2.2
  have SN : Hid (Sn H B.ps zs B.p) := sn
  clear U1 U2 R sn
  go_enter Tryz.func20, Tryz.ntmps20
  go_upto_region 3 with fail
  clear d2 g2 d12 g12
  generalize (w.setCell ⟨B.q, 2, none⟩ (.int .i64 (-1))).setCell ⟨B.q, 12, none⟩ (.int .i64 (-1)) = x0 at *
  have d6 : x0.cell? ⟨B.q, 6, none⟩ = some (.bool H.halted) := R0.out.v.cell 6 rfl
  rw [HH.out] at d6
  go_upto_region 7 with (go_at_call 39; refine (z_due R0.out SN.out.hok).mono ?_; rintro e x1 ⟨rfl, b1⟩; rw [HD.out]; have R1 : Hid (Bs x1 B i o zs H (-1) (-1)) := R0.out.keep b1; have B1 : Hid (Below B.base w x1) := B0.out.trans (bless b1 R0.out.size); clear b1 d6)
  have c7w : x1.cell? ⟨B.q, 7, none⟩ = some (.bool true) := by rw [← HW.out]; exact R1.out.v.cell 7 rfl
  go_upto_region 8 with fail
  clear c7w
  have S1 : Hid (x1.drew.cell? ⟨B.q, 5, none⟩ = some (.slice (some ⟨B.cg, 0, none⟩) 11 B.ck) ∧ x1.drew.cell? ⟨B.cg, 7, none⟩ = some (.int .i64 g7)) := ⟨R1.out.v.cell 5 rfl, by rw [← HG7.out]; exact R1.out.hc.cell R1.out.hc.len 7 (by decide)⟩
  replace R1 := hid_dr R1
  replace B1 := hid_bd B1
  refine wp_region_held (S := fun w' => w'.cell? ⟨B.q, 5, none⟩ = some (.slice (some ⟨B.cg, 0, none⟩) 11 B.ck) ∧ w'.cell? ⟨B.cg, 7, none⟩ = some (.int .i64 g7)) (by kernel_rfl) ?_
  change wpAnyH _ _ _ _ _ _ _ _ (World.drew _)
  generalize x1.drew = x1' at *
  refine tk (i := 0) (v := .pointer (some ⟨B.q, 3, none⟩)) rfl (Or.inl ⟨by rfl, fun w' hs => by go_simp⟩) S1.out ?_
  change wpAnyH _ _ _ _ _ _ _ (Act.put _ (some 33) _) _
  simp only [Act.put, List.setIfInBounds_toArray, List.set_cons_zero, List.set_cons_succ]
  refine tk (i := 2) (v := .pointer (some ⟨B.q, 3, none⟩)) rfl (Or.inl ⟨by rfl, fun w' hs => by go_simp⟩) S1.out ?_
  change wpAnyH _ _ _ _ _ _ _ (Act.put _ (some 35) _) _
  simp only [Act.put, List.setIfInBounds_toArray, List.set_cons_zero, List.set_cons_succ]
  refine tk (i := 3) (v := .pointer (some ⟨B.q, 3, none⟩)) rfl (Or.inl ⟨by rfl, fun w' hs => by go_simp⟩) S1.out ?_
  change wpAnyH _ _ _ _ _ _ _ (Act.put _ (some 36) _) _
  simp only [Act.put, List.setIfInBounds_toArray, List.set_cons_zero, List.set_cons_succ]
  refine tk (i := 4) (v := .pointer (some ⟨B.q, 5, none⟩)) rfl (Or.inl ⟨by rfl, fun w' hs => by go_simp⟩) S1.out ?_
  change wpAnyH _ _ _ _ _ _ _ (Act.put _ (some 37) _) _
  simp only [Act.put, List.setIfInBounds_toArray, List.set_cons_zero, List.set_cons_succ]
  refine tk (i := 5) (v := .slice (some ⟨B.cg, 0, none⟩) 11 B.ck) rfl (Or.inl ⟨by rfl, fun w' hs => by have hc := hs.1; go_simp⟩) S1.out ?_
  change wpAnyH _ _ _ _ _ _ _ (Act.put _ (some 38) _) _
  simp only [Act.put, List.setIfInBounds_toArray, List.set_cons_zero, List.set_cons_succ]
  refine tk (i := 6) (v := .pointer (some ⟨B.cg, 7, none⟩)) rfl (Or.inl ⟨by rfl, fun w' hs => by go_simp⟩) S1.out ?_
  change wpAnyH _ _ _ _ _ _ _ (Act.put _ (some 39) _) _
  simp only [Act.put, List.setIfInBounds_toArray, List.set_cons_zero, List.set_cons_succ]
  refine tk (i := 7) (v := .int .i64 g7) rfl (Or.inl ⟨by rfl, fun w' hs => by have hc := hs.2; go_simp⟩) S1.out ?_
  change wpAnyH _ _ _ _ _ _ _ (Act.put _ (some 40) _) _
  simp only [Act.put, List.setIfInBounds_toArray, List.set_cons_zero, List.set_cons_succ]
  refine wpAnyH_ready (rs := [1]) (by kernel_rfl) (by simp) ?_
  refine AllReadyH.cons rfl (fun K hK => ?_) AllReadyH.nil
  rw [if_pos (by rfl)]
  go_simp
  refine (z_pending R1.out).mono ?_
  rw [HPV.out]
  rintro e x2 ⟨rfl, b2⟩
  have R2 : Hid (Bs x2 B i o zs H (-1) (-1)) := R1.out.keep b2
  have B2 : Hid (Below B.base w x2) := B1.out.trans (bless b2 R1.out.size)
  have S2 : Hid (x2.cell? ⟨B.q, 5, none⟩ = some (.slice (some ⟨B.cg, 0, none⟩) 11 B.ck) ∧ x2.cell? ⟨B.cg, 7, none⟩ = some (.int .i64 g7)) := ⟨R2.out.v.cell 5 rfl, by rw [← HG7.out]; exact R2.out.hc.cell R2.out.hc.len 7 (by decide)⟩
  clear b2
  refine hK.out _ _ S2.out (fun _ => ?_)
  clear hK K
  refine tk (i := 8) (v := .int .i64 bv) rfl (Or.inl ⟨by rfl, fun w' hs => by have hc := BE.out; go_simp⟩) S2.out ?_
  change wpAnyH _ _ _ _ _ _ _ (Act.put _ (some 41) _) _
  simp only [Act.put, List.setIfInBounds_toArray, List.set_cons_zero, List.set_cons_succ]
  refine tk (i := 9) (v := .bool false) rfl (Or.inl ⟨by rfl, fun w' hs => by have hc := BQ.out; go_simp⟩) S2.out ?_
  change wpAnyH _ _ _ _ _ _ _ (Act.put _ (some 42) _) _
  simp only [Act.put, List.setIfInBounds_toArray, List.set_cons_zero, List.set_cons_succ]
  refine wpAnyH_done (by kernel_rfl) ?_ _
  have d7 := R2.out.v.cell 7 rfl
  have f7 := R2.out.v.free 7
  have U : Hid (_ ∧ _) := R2.out.fld (G := { H with waiting := false }) (ri' := -1) (fa' := -1) 7 (.bool false) rfl rfl rfl rfl rfl
  go_upto_region 10 with fail
  have R3 : Hid (Bs (x2.setCell ⟨B.q, 7, none⟩ (.bool false)) B i o zs G (-1) (-1)) := by show Bs _ _ _ _ _ _ _ _; rw [← EG.out]; exact U.out.1
  have B3 : Hid (Below B.base w (x2.setCell ⟨B.q, 7, none⟩ (.bool false))) := B2.out.trans U.out.2
  clear d7 f7 U R2 B2 S2 EG HD S1 R1 B1 BE BQ HG7 HPV R0 B0
  generalize x2.setCell ⟨B.q, 7, none⟩ (.bool false) = x3 at *
  have c4 : x3.cell? ⟨B.q, 4, none⟩ = some (.int .i64 H.pc) := by rw [← PC.out]; exact R3.out.v.cell 4 rfl
  have PS := fun x => z_space R3.out SG.out x 4 rfl
  by_cases hz : plC G B.ps zs H.pc 4 = 0
  · have PZ : Hid (plC G B.ps zs H.pc 4 = 0) := hz
    obtain ⟨tn, htn, htp⟩ := pl_run (show Sn G B.ps zs B.p from SG.out) (x := H.pc) hz
    have PV : Hid (plV G B.ps zs H.pc 4 = (tn : Int)) := htn
    have Rt : Hid (tn < B.p * 8) := htp
    have hti : (tn : Int) < ((B.p * 8 : Nat) : Int) := by omega
    have FZ : Hid (fetZ G B.ps zs = zs.getD tn 0) := by show _ = _; unfold fetZ; rw [PC.out, PV.out]; rfl
    obtain ⟨z, hzz⟩ : ∃ z, zs.getD tn 0 = z := ⟨_, rfl⟩
    have ZZ : Hid (zs.getD tn 0 = z) := hzz
    have EZ : Hid (fetZ G B.ps zs = z) := FZ.out.trans hzz
    clear hz htn htp hzz FZ
    go_upto_region 13 with (go_at_call 42; refine (PS _).mono ?_; rintro e x5 ⟨rfl, b5⟩; rw [PZ.out, PV.out]; have R5 : Hid (Bs x5 B i o zs G (-1) (-1)) := R3.out.keep b5; have B5 : Hid (Below B.base w x5) := B3.out.trans (bless b5 R3.out.size); clear b5 c4 PS)
    have c1 : x5.cell? ⟨B.q, 1, none⟩ = some (.slice (some ⟨B.gm, 0, none⟩) (B.p * 8) B.mc) := R5.out.v.cell 1 rfl
    have ct : x5.cell? ⟨B.gm, tn, none⟩ = some (.int .i64 z) := by rw [← ZZ.out]; exact R5.out.hm.cell R5.out.hm.len tn Rt.out
    by_cases hf : decF z = 0
    · have DY := fun w => z_decYes z hf w
      have HF : Hid (decF z = 0) := hf
      have FP : Hid (_ = _) := fet_parts hf
      clear hf
      obtain ⟨d, hd1⟩ : ∃ d, (z / 1048576 % 16).toNat = d := ⟨_, rfl⟩
      obtain ⟨a, ha1⟩ : ∃ a, (z / 65536 % 16).toNat = a := ⟨_, rfl⟩
      obtain ⟨op, ho1⟩ : ∃ op, z / 16777216 = op := ⟨_, rfl⟩
      obtain ⟨im, hi1⟩ : ∃ im, z % 65536 = im := ⟨_, rfl⟩
      have ID : Hid ((z / 1048576 % 16).toNat = d ∧ (z / 65536 % 16).toNat = a ∧ z / 16777216 = op ∧ z % 65536 = im) := ⟨hd1, ha1, ho1, hi1⟩
      rw [hd1, ha1, ho1, hi1] at FP
      rw [hd1, ha1, ho1, hi1] at DY
      clear hd1 ha1 ho1 hi1
      go_upto_region 14 with (go_at_call 43; refine (DY _).mono ?_; rintro e x6 ⟨rfl, b6⟩; have R6 : Hid (Bs x6 B i o zs G (-1) (-1)) := R5.out.keep b6; have B6 : Hid (Below B.base w x6) := B5.out.trans (bless b6 R5.out.size); clear b6 c1 ct DY)
      have VV : Hid (_ ∧ _) := ins_var x6 (.int .i64 op) (.int .i64 (d : Int)) (.int .i64 (a : Int)) (.int .i64 im)
      generalize x6.alloc (.cells #[.int .i64 op, .int .i64 (d : Int), .int .i64 (a : Int), .int .i64 im] 76) = x7 at *
      have R7 : Hid (Bs x7 B i o zs G (-1) (-1)) := R6.out.keep VV.out.2
      have B7 : Hid (Below B.base w x7) := B6.out.trans (bless VV.out.2 R6.out.size)
      have n0 := VV.out.1.cell 0 rfl
      have n1 := VV.out.1.cell 1 rfl
      have n2 := VV.out.1.cell 2 rfl
      have n3 := VV.out.1.cell 3 rfl
      go_wp2_with fail
      refine (z_do R7.out SG.out op d a im FP.out).mono ?_
      intro e x8 hzp
      have SD := doV_sn SG.out (-1) op d a im FP.out
      have ER : Hid (Z = (match doV G B.ps zs (-1) op d a im with
        | ⟨some (c, t), _, G, ys, rj⟩ => (trapV G c t, ys, c, rj)
        | ⟨none, n, G, ys, rj⟩ => ({ G with pc := n, done := min (G.done + 1) 1000000000 }, ys, -1, rj))) := by
        show _ = _
        rw [E0.out]
        unfold runV
        rw [PC.out, if_neg (by simp [PZ.out]), EZ.out, if_neg (by simp [HF.out]), ID.out.1, ID.out.2.1, ID.out.2.2.1, ID.out.2.2.2]
      generalize doV G B.ps zs (-1) op d a im = D at *
      obtain ⟨t, nx, G2, ys, rj⟩ := D
      clear n0 n1 n2 n3
      cases t with
      | none =>
        obtain ⟨rfl, i8, o8, r8, b8⟩ := hzp
        have R8 : Hid (Bs x8 B i8 o8 ys { G2 with pc := nx } rj (-1)) := r8
        have B8 : Hid (Below B.base w x8) := B7.out.trans b8
        have DB : 0 ≤ G2.done ∧ G2.done ≤ 1000000000 := ⟨SD.hok.d0, SD.hok.d9⟩
        clear r8 b8 SD
        have d9 : x8.cell? ⟨B.q, 9, none⟩ = some (.int .i64 G2.done) := R8.out.v.cell 9 rfl
        have f9 := R8.out.v.free 9
        have MN : Hid ((if 1000000000 < G2.done + 1 then 1000000000 else G2.done + 1) = min (G2.done + 1) 1000000000) := by show _ = _; split <;> omega
        go_wp2_with (go_at_call 45; refine (z_min _ _ _).mono ?_; rintro e y ⟨rfl, hy⟩; rw [hy]; clear hy y; rw [MN.out])
        go_end0
        have U := R8.out.fld (G := { G2 with pc := nx, done := min (G2.done + 1) 1000000000 }) (ri' := rj) (fa' := -1) 9 (.int .i64 (min (G2.done + 1) 1000000000)) rfl rfl rfl rfl rfl
        exact ⟨rfl, _, _, by rw [ER.out]; exact U.1, B8.out.trans U.2⟩
      | some ct =>
        obtain ⟨c, t⟩ := ct
        obtain ⟨rfl, i8, o8, r8, b8⟩ := hzp
        have R8 : Hid (Bs x8 B i8 o8 ys (trapV G2 c t) rj c) := r8
        have B8 : Hid (Below B.base w x8) := B7.out.trans b8
        clear r8 b8 SD
        go_wp2_with fail
        go_end0
        exact ⟨rfl, _, _, by rw [ER.out]; exact R8.out, B8.out⟩
    · obtain ⟨y0, y1, y2, y3, DN⟩ := z_decNo z hf
      have HF : Hid (¬ decF z = 0) := hf
      clear hf
      go_upto_region 14 with (go_at_call 43; refine (DN _).mono ?_; rintro e x6 ⟨rfl, b6⟩; have R6 : Hid (Bs x6 B i o zs G (-1) (-1)) := R5.out.keep b6; have B6 : Hid (Below B.base w x6) := B5.out.trans (bless b6 R5.out.size); clear b6 c1 ct DN)
      have VV : Hid (_ ∧ _) := ins_var x6 (.int .i64 y0) (.int .i64 y1) (.int .i64 y2) (.int .i64 y3)
      generalize x6.alloc (.cells #[.int .i64 y0, .int .i64 y1, .int .i64 y2, .int .i64 y3] 76) = x7 at *
      have R7 : Hid (Bs x7 B i o zs G (-1) (-1)) := R6.out.keep VV.out.2
      have B7 : Hid (Below B.base w x7) := B6.out.trans (bless VV.out.2 R6.out.size)
      have c1 : x7.cell? ⟨B.q, 1, none⟩ = some (.slice (some ⟨B.gm, 0, none⟩) (B.p * 8) B.mc) := R7.out.v.cell 1 rfl
      have ct : x7.cell? ⟨B.gm, tn, none⟩ = some (.int .i64 z) := by rw [← ZZ.out]; exact R7.out.hm.cell R7.out.hm.len tn Rt.out
      go_wp2_with fail
      refine (z_fall R7.out SG.out.hok 1 z).mono ?_
      rintro e x8 ⟨rfl, r8, b8⟩
      have R8 : Hid (Bs x8 B i o zs (trapV G 1 z) (-1) 1 ∧ Below B.base w x8) := ⟨r8, B7.out.trans b8⟩
      clear r8 b8 c1 ct
      have ER : Hid (Z = (trapV G 1 z, zs, 1, -1)) := by
        show _ = _
        rw [E0.out]
        unfold runV
        rw [PC.out, if_neg (by simp [PZ.out]), EZ.out, if_pos HF.out]
      go_wp2_with fail
      exact bodyPost_ret (results_none rfl _ _ _) rfl ⟨rfl, _, _, by rw [ER.out]; exact R8.out.1, R8.out.2⟩
  · obtain ⟨pk, hpk⟩ : ∃ v, plC G B.ps zs H.pc 4 = v := ⟨_, rfl⟩
    obtain ⟨pv2, hpv⟩ : ∃ v, plV G B.ps zs H.pc 4 = v := ⟨_, rfl⟩
    have PK : Hid (plC G B.ps zs H.pc 4 = pk) := hpk
    have PV : Hid (plV G B.ps zs H.pc 4 = pv2) := hpv
    have PZ : Hid (¬ plC G B.ps zs H.pc 4 = 0) := hz
    rw [hpk] at hz
    have hk : (pk != 0) = true := by simpa using hz
    clear hz hpk hpv
    go_upto_region 12 with (go_at_call 42; refine (PS _).mono ?_; rintro e x5 ⟨rfl, b5⟩; rw [PK.out, PV.out]; have R5 : Hid (Bs x5 B i o zs G (-1) (-1)) := R3.out.keep b5; have B5 : Hid (Below B.base w x5) := B3.out.trans (bless b5 R3.out.size); clear b5 c4 PS)
    have c4 : x5.cell? ⟨B.q, 4, none⟩ = some (.int .i64 H.pc) := by rw [← PC.out]; exact R5.out.v.cell 4 rfl
    go_wp2_with fail
    refine (z_fall R5.out SG.out.hok 2 H.pc).mono ?_
    rintro e x8 ⟨rfl, r8, b8⟩
    have R8 : Hid (Bs x8 B i o zs (trapV G 2 H.pc) (-1) 2 ∧ Below B.base w x8) := ⟨r8, B5.out.trans b8⟩
    clear r8 b8 c4
    have ER : Hid (Z = (trapV G 2 H.pc, zs, 2, -1)) := by
      show _ = _
      rw [E0.out]
      unfold runV
      rw [PC.out, if_pos PZ.out]
    go_wp2_with fail
    exact bodyPost_ret (results_none rfl _ _ _) rfl ⟨rfl, _, _, by rw [ER.out]; exact R8.out.1, R8.out.2⟩
theorem z_step {w : World} {B : Bp} {i o : Value} {zs : List Int} {H : Ht} {ri fa : Int} (R : Bs w B i o zs H ri fa) (sn : Sn H B.ps zs B.p) :
    Calls Tryz.prog 20 #[.pointer (some ⟨B.q, 0, none⟩)] w fun e w' => e = .returned (.tuple #[]) ∧ ∃ i' o', Bs w' B i' o' (stepV H B.ps zs (-1) (-1)).2.1 (stepV H B.ps zs (-1) (-1)).1 (stepV H B.ps zs (-1) (-1)).2.2.2 (stepV H B.ps zs (-1) (-1)).2.2.1 ∧ Below B.base w w' := by
  cases hh : H.halted with
  | true => exact zs_halts R sn hh
  | false =>
    by_cases hd : dueV H < 0
    · cases hw : H.waiting with
      | false => exact zs_run R sn hh hd hw
      | true =>
        by_cases hb : bothV H = 0
        · exact zs_waits R sn hh hd hw hb
        · exact zs_wake R sn hh hd hw hb
    · exact zs_due R sn hh hd
end Go.Proofs.YtimcoobhakfnaaaGreatDoor
namespace Go.Proofs.YtimcoobhakfnaaaGreatDoor
open Go.RowKit
set_option linter.unusedVariables false

theorem apt_noZ {a b : Value} {x : Nat} (h : Apt a b) (e : a.ownBlock = some x) (f : b.ownBlock = some x) : False := by
  rcases h with h | h
  · rw [h] at e; cases e
  · exact h (e.trans f.symm)
set_option maxRecDepth 20000 in
set_option maxHeartbeats 8000000 in
theorem z_new (r c i o : Value) (H : Ht) (pg pc : Nat) (ps : List (Int × Int)) (gm p mc : Nat) (zs : List Int) (b : Nat) (w : World) (h : Hm w b r c i o H) (hP : Prs 61 w b (.slice (some ⟨pg, 0, none⟩) 8 pc) ps) (hM : Nums w b (.slice (some ⟨gm, 0, none⟩) (p * 8) mc) zs) (sn : Sn H ps zs p) :
    Calls Tryz.prog 19 #[.agg #[r, .int .i64 H.pc, c, .bool H.halted, .bool H.waiting, .bool H.rung, .int .i64 H.done, i, o], .slice (some ⟨pg, 0, none⟩) 8 pc, .slice (some ⟨gm, 0, none⟩) (p * 8) mc] w fun e w' => ∃ (B : Bp) (i' o' : Value), e = .returned (.pointer (some ⟨B.q, 0, none⟩)) ∧ B.ps = ps ∧ B.p = p ∧ B.base = w.heap.size ∧ Bs w' B i' o' zs H (-1) (-1) ∧ Below w.heap.size w w' := by
  have HM : Hid (Hm w b r c i o H) := h
  have HP : Hid (Prs 61 w b (.slice (some ⟨pg, 0, none⟩) 8 pc) ps) := hP
  have HZ : Hid (Nums w b (.slice (some ⟨gm, 0, none⟩) (p * 8) mc) zs) := hM
  have SN : Hid (Sn H ps zs p) := sn
  have PL : Hid (pg < w.heap.size) := (hP.lt pg rfl).2
  obtain ⟨a0, k0, rfl, _⟩ := h.r.shape
  obtain ⟨a1, k1, rfl, _⟩ := h.c.shape
  obtain ⟨a2, k2, rfl, _⟩ := h.i.shape
  obtain ⟨a3, k3, rfl, _⟩ := h.o.shape
  clear h hP hM sn
  generalize hW : w.alloc (.cells #[.slice a0 H.regs.length k0, .int .i64 H.pc, .slice a1 H.csr.length k1, .bool H.halted, .bool H.waiting, .bool H.rung, .int .i64 H.done, .slice a2 H.inn.length k2, .slice a3 H.out.length k3] 29) = W
  have B0 : Hid (Below w.heap.size w W) := by show Below _ _ _; rw [← hW]; exact al (Below.refl _ _) _
  obtain ⟨s, hS⟩ : ∃ s, w.heap.size = s := ⟨_, rfl⟩
  have HS : Hid (w.heap.size = s) := hS
  have VA : Hid (Vb W s #[.slice a0 H.regs.length k0, .int .i64 H.pc, .slice a1 H.csr.length k1, .bool H.halted, .bool H.waiting, .bool H.rung, .int .i64 H.done, .slice a2 H.inn.length k2, .slice a3 H.out.length k3] 29) := by show Vb _ _ _ _; rw [← hW, ← hS]; exact Vb.new _ _ _
  go_enter Tryz.func19, Tryz.ntmps19
  go_upto_region 1 with fail
  clear hW hS
  have S0 : Hid (Vb W.drew s #[.slice a0 H.regs.length k0, .int .i64 H.pc, .slice a1 H.csr.length k1, .bool H.halted, .bool H.waiting, .bool H.rung, .int .i64 H.done, .slice a2 H.inn.length k2, .slice a3 H.out.length k3] 29) := VA.out
  have B1 : Hid (Below w.heap.size w W.drew) := B0.out.drew
  clear VA B0
  refine wp_region_held (S := fun w' => Vb w' s #[.slice a0 H.regs.length k0, .int .i64 H.pc, .slice a1 H.csr.length k1, .bool H.halted, .bool H.waiting, .bool H.rung, .int .i64 H.done, .slice a2 H.inn.length k2, .slice a3 H.out.length k3] 29) (by kernel_rfl) ?_
  change wpAnyH _ _ _ _ _ _ _ _ (World.drew _)
  generalize W.drew = x0 at *
  refine tk (i := 0) (v := .slice (some ⟨pg, 0, none⟩) 8 pc) rfl (Or.inl ⟨by rfl, fun w' hs => by go_simp⟩) S0.out ?_
  change wpAnyH _ _ _ _ _ _ _ (Act.put _ (some 7) _) _
  simp only [Act.put, List.setIfInBounds_toArray, List.set_cons_zero, List.set_cons_succ]
  refine tk (i := 1) (v := .slice (some ⟨gm, 0, none⟩) (p * 8) mc) rfl (Or.inl ⟨by rfl, fun w' hs => by go_simp⟩) S0.out ?_
  change wpAnyH _ _ _ _ _ _ _ (Act.put _ (some 8) _) _
  simp only [Act.put, List.setIfInBounds_toArray, List.set_cons_zero, List.set_cons_succ]
  refine tk (i := 3) (v := .agg #[.slice a0 H.regs.length k0, .int .i64 H.pc, .slice a1 H.csr.length k1, .bool H.halted, .bool H.waiting, .bool H.rung, .int .i64 H.done, .slice a2 H.inn.length k2, .slice a3 H.out.length k3]) rfl (Or.inl ⟨by rfl, fun w' hs => by have y0 := hs.cell 0 rfl; have y1 := hs.cell 1 rfl; have y2 := hs.cell 2 rfl; have y3 := hs.cell 3 rfl; have y4 := hs.cell 4 rfl; have y5 := hs.cell 5 rfl; have y6 := hs.cell 6 rfl; have y7 := hs.cell 7 rfl; have y8 := hs.cell 8 rfl; go_simp⟩) S0.out ?_
  change wpAnyH _ _ _ _ _ _ _ (Act.put _ (some 10) _) _
  simp only [Act.put, List.setIfInBounds_toArray, List.set_cons_zero, List.set_cons_succ]
  refine wpAnyH_ready (rs := [2]) (by kernel_rfl) (by simp) ?_
  refine AllReadyH.cons rfl (fun K hK => ?_) AllReadyH.nil
  rw [if_pos (by rfl)]
  go_simp
  have CP := spec_copyZ gm mc zs b x0 (by rw [SN.out.zl]; exact HZ.out.keep B1.out) (by have := SN.out.zl; have := SN.out.p24; omega)
  rw [SN.out.zl] at CP
  refine CP.mono ?_
  clear CP
  rintro e x1 ⟨v1, rfl, n1, b1⟩
  obtain ⟨ga, gc, hv, -, -, hg⟩ := n1.shape
  obtain ⟨g1, hg⟩ := hg (by have := SN.out.zl; have := SN.out.p1; omega)
  rw [hg, SN.out.zl] at hv
  subst hv
  have N1 : Hid (Nums x1 x0.heap.size (.slice (some ⟨g1, 0, none⟩) (p * 8) gc) zs) := n1
  have B2 : Hid (Below w.heap.size w x1) := on B1.out b1
  have S1 : Hid (Vb x1 s #[.slice a0 H.regs.length k0, .int .i64 H.pc, .slice a1 H.csr.length k1, .bool H.halted, .bool H.waiting, .bool H.rung, .int .i64 H.done, .slice a2 H.inn.length k2, .slice a3 H.out.length k3] 29) := S0.out.keep b1
  clear n1 b1 hg
  refine hK.out _ _ S1.out (fun _ => ?_)
  clear hK K
  refine wpAnyH_ready (rs := [4]) (by kernel_rfl) (by simp) ?_
  refine AllReadyH.cons rfl (fun K hK => ?_) AllReadyH.nil
  rw [if_pos (by rfl)]
  go_simp
  refine (s_copyX _ _ _ _ H b x1 (HM.out.keep B2.out) (by have := SN.out.hok.r16; omega) (by have := SN.out.hok.c11; omega) (by have := SN.out.hok.i40; omega) (by have := SN.out.hok.o40; omega)).mono ?_
  rintro e x2 ⟨r2, d2, i2, o2, rfl, m2, A2, b2, bo, bo1, bo2, bo3, bo4⟩
  obtain ⟨xr, kr, hr, -, -, hgr⟩ := m2.r.shape
  obtain ⟨rg, hgr⟩ := hgr (by have := SN.out.hok.r16; omega)
  rw [hgr, SN.out.hok.r16] at hr
  subst hr
  obtain ⟨xc, kc, hc, -, -, hgc⟩ := m2.c.shape
  obtain ⟨cg, hgc⟩ := hgc (by have := SN.out.hok.c11; omega)
  rw [hgc, SN.out.hok.c11] at hc
  subst hc
  obtain ⟨xi, ki, hi, _⟩ := m2.i.shape
  obtain ⟨xo, ko, ho, _⟩ := m2.o.shape
  subst hi ho
  have M2 : Hid (Hm x2 x1.heap.size (.slice (some ⟨rg, 0, none⟩) 16 kr) (.slice (some ⟨cg, 0, none⟩) 11 kc) (.slice xi H.inn.length ki) (.slice xo H.out.length ko) H) := m2
  have HA2 : Hid (Ha (.slice (some ⟨rg, 0, none⟩) 16 kr) (.slice (some ⟨cg, 0, none⟩) 11 kc) (.slice xi H.inn.length ki) (.slice xo H.out.length ko)) := A2
  have BO : Hid (x1.heap.size ≤ bo ∧ bo ≤ x2.heap.size ∧ Nums x2 bo (.slice xo H.out.length ko) H.out ∧ (∀ k, ((Value.slice (some ⟨rg, 0, none⟩) 16 kr).ownBlock = some k ∨ (Value.slice (some ⟨cg, 0, none⟩) 11 kc).ownBlock = some k ∨ (Value.slice xi H.inn.length ki).ownBlock = some k) → k < bo)) := ⟨bo1, bo2, bo3, bo4⟩
  have N2 : Hid (Nums x2 x0.heap.size (.slice (some ⟨g1, 0, none⟩) (p * 8) gc) zs) := N1.out.keep b2
  have B3 : Hid (Below w.heap.size w x2) := on B2.out b2
  have S2 : Hid (Vb x2 s #[.slice a0 H.regs.length k0, .int .i64 H.pc, .slice a1 H.csr.length k1, .bool H.halted, .bool H.waiting, .bool H.rung, .int .i64 H.done, .slice a2 H.inn.length k2, .slice a3 H.out.length k3] 29) := S1.out.keep b2
  have LG : Hid (g1 < x1.heap.size ∧ x0.heap.size ≤ g1 ∧ w.heap.size ≤ x0.heap.size ∧ w.heap.size ≤ x1.heap.size) := ⟨(N1.out.lt g1 rfl).2, (N1.out.lt g1 rfl).1, B1.out.size, B2.out.size⟩
  clear m2 A2 b2 bo1 bo2 bo3 bo4 hgr hgc
  refine hK.out _ _ S2.out (fun _ => ?_)
  clear hK K
  refine tk (i := 5) (v := .agg #[.slice (some ⟨pg, 0, none⟩) 8 pc, .slice (some ⟨g1, 0, none⟩) (p * 8) gc, .int .i64 (-1), .slice (some ⟨rg, 0, none⟩) 16 kr, .int .i64 H.pc, .slice (some ⟨cg, 0, none⟩) 11 kc, .bool H.halted, .bool H.waiting, .bool H.rung, .int .i64 H.done, .slice xi H.inn.length ki, .slice xo H.out.length ko, .int .i64 (-1)]) rfl (Or.inl ⟨by rfl, fun w' hs => by go_simp⟩) S2.out ?_
  change wpAnyH _ _ _ _ _ _ _ (Act.put _ (some 12) _) _
  simp only [Act.put, List.setIfInBounds_toArray, List.set_cons_zero, List.set_cons_succ]
  refine wpAnyH_ready (rs := [6]) (by kernel_rfl) (by simp) ?_
  refine AllReadyH.cons rfl (fun K hK => ?_) AllReadyH.nil
  rw [if_pos (by rfl)]
  go_simp
  have bb : Below x2.heap.size x2 (x2.alloc (.cells (busC ⟨w.heap.size, x2.heap.size, rg, kr, cg, kc, g1, gc, pg, pc, p, ps, none⟩ (.slice xi H.inn.length ki) (.slice xo H.out.length ko) H (-1) (-1)) 52)) := al (Below.refl _ _) _
  have BB : Hid (Bs (x2.alloc (.cells (busC ⟨w.heap.size, x2.heap.size, rg, kr, cg, kc, g1, gc, pg, pc, p, ps, none⟩ (.slice xi H.inn.length ki) (.slice xo H.out.length ko) H (-1) (-1)) 52)) ⟨w.heap.size, x2.heap.size, rg, kr, cg, kc, g1, gc, pg, pc, p, ps, none⟩ (.slice xi H.inn.length ki) (.slice xo H.out.length ko) zs H (-1) (-1)) := by
    have l1 := (M2.out.r.lt rg rfl)
    have l2 := (M2.out.c.lt cg rfl)
    have l3 := LG.out
    have o1 := BO.out.2.2.2 rg (.inl rfl)
    have o2 := BO.out.2.2.2 cg (.inr (.inl rfl))
    refine ⟨Vb.new _ _ _, (M2.out.r.mono l3.2.2.2).keep bb, (M2.out.c.mono l3.2.2.2).keep bb, (N2.out.mono l3.2.2.1).keep bb, (M2.out.i.keep bb).rv, ⟨bo, by have := BO.out.1; show w.heap.size ≤ bo; omega, by have := BO.out.2.1; have := bb.size; omega, BO.out.2.2.1.keep bb, o1, o2, by have := BO.out.1; show g1 < bo; omega, fun k e => BO.out.2.2.2 k (.inr (.inr e))⟩, fun k e => ?_, ?_, ?_, ?_, ((HP.out.keep B3.out).keep bb).mono (Nat.zero_le _), PL.out, by show w.heap.size ≤ x2.heap.size; exact B3.out.size, fun x cs t e => by cases e⟩
    · obtain ⟨h1, h2⟩ := M2.out.i.lt k e
      refine ⟨by show w.heap.size ≤ k; omega, Nat.lt_of_lt_of_le h2 bb.size, ?_, ?_, by show k ≠ g1; omega, by show k ≠ x2.heap.size; omega⟩
      · intro f; exact apt_noZ HA2.out.ri rfl (e.trans (congrArg some (show k = rg from f)))
      · intro f; exact apt_noZ HA2.out.ci rfl (e.trans (congrArg some (show k = cg from f)))
    · intro f; exact apt_noZ HA2.out.rc rfl (by rw [show rg = cg from f]; rfl)
    · show rg ≠ g1; omega
    · show cg ≠ g1; omega
  have SB : Hid (Vb (x2.alloc (.cells (busC ⟨w.heap.size, x2.heap.size, rg, kr, cg, kc, g1, gc, pg, pc, p, ps, none⟩ (.slice xi H.inn.length ki) (.slice xo H.out.length ko) H (-1) (-1)) 52)) s #[.slice a0 H.regs.length k0, .int .i64 H.pc, .slice a1 H.csr.length k1, .bool H.halted, .bool H.waiting, .bool H.rung, .int .i64 H.done, .slice a2 H.inn.length k2, .slice a3 H.out.length k3] 29) := S2.out.keep bb
  refine hK.out _ _ SB.out (fun _ => ?_)
  clear hK K
  refine tk (i := 7) (v := .pointer (some ⟨x2.heap.size, 0, none⟩)) rfl (Or.inl ⟨by rfl, fun w' hs => by go_simp⟩) SB.out ?_
  change wpAnyH _ _ _ _ _ _ _ (Act.put _ (some 6) _) _
  simp only [Act.put, List.setIfInBounds_toArray, List.set_cons_zero, List.set_cons_succ]
  refine wpAnyH_done (by kernel_rfl) ?_ _
  go_wp2_with fail
  go_ret
  exact ⟨⟨w.heap.size, x2.heap.size, rg, kr, cg, kc, g1, gc, pg, pc, p, ps, none⟩, _, _, rfl, rfl, rfl, rfl, BB.out, on B3.out bb⟩
/-- A machine and a memory that are read alone. -/
structure Tr (w : World) (base : Nat) (r c i o m : Value) (H : Ht) (zs : List Int) : Prop where
  h : Hr w r c i o H
  mm : Rv w m zs
  lt : ∀ k, (Own4 r c i o k ∨ m.ownBlock = some k) → k < w.heap.size
theorem Tr.mq {S : Nat → Prop} {w w' : World} {base : Nat} {r c i o m : Value} {H : Ht} {zs : List Int} (s : Tr w base r c i o m H zs) (g : Mq S w w') (hn : ∀ k, (Own4 r c i o k ∨ m.ownBlock = some k) → ¬ S k) : Tr w' base r c i o m H zs :=
  ⟨s.h.mq g fun k e _ => hn k (.inl e), s.mm.mq g fun k e _ => hn k (.inr e), fun k e => Nat.lt_of_lt_of_le (s.lt k e) g.size⟩
theorem Tm.own {w : World} {base : Nat} {r c i o m : Value} {H : Ht} {zs : List Int} (s : Tm w base r c i o m H zs) (k : Nat) (e : Own4 r c i o k ∨ m.ownBlock = some k) : base ≤ k ∧ k < w.heap.size := by
  rcases e with e | e
  · exact s.h.own k e
  · exact s.mm.lt k e
theorem Tm.tr {w : World} {base : Nat} {r c i o m : Value} {H : Ht} {zs : List Int} (s : Tm w base r c i o m H zs) : Tr w base r c i o m H zs := ⟨s.h.hr, s.mm.rv, fun k e => (s.own k e).2⟩
theorem Tm.mq {S : Nat → Prop} {w w' : World} {base : Nat} {r c i o m : Value} {H : Ht} {zs : List Int} (s : Tm w base r c i o m H zs) (g : Mq S w w') (hn : ∀ k, (Own4 r c i o k ∨ m.ownBlock = some k) → ¬ S k) : Tm w' base r c i o m H zs :=
  ⟨g.hm s.h fun k e => hn k (.inl e), s.a, g.nums s.mm fun k e => hn k (.inr e), s.rm, s.cm, s.im, s.om⟩
theorem Tr.void (w : World) (base : Nat) : Tr w base (.slice none 0 0) (.slice none 0 0) (.slice none 0 0) (.slice none 0 0) (.slice none 0 0) voidH [] := (Tm.void w base).tr
theorem Tr.keep {w w' : World} {base : Nat} {r c i o m : Value} {H : Ht} {zs : List Int} (s : Tr w base r c i o m H zs) (b : Below w.heap.size w w') : Tr w' base r c i o m H zs := ⟨s.h.stay b, s.mm.stay b, fun k e => Nat.lt_of_lt_of_le (s.lt k e) b.size⟩
end Go.Proofs.YtimcoobhakfnaaaGreatDoor
namespace Go.Proofs.YtimcoobhakfnaaaGreatDoor
open Go.RowKit
set_option linter.unusedVariables false

def rsC (H : Ht) (ps : List (Int × Int)) (zs : List Int) (n : Int) : Int := if sfV H ps zs = 0 then (smV H ps zs n).code else sfV H ps zs
def rsH (H : Ht) (ps : List (Int × Int)) (zs : List Int) (n : Int) : Ht := if rsC H ps zs n = 0 then (smV H ps zs n).H else voidH
def rsP (H : Ht) (ps : List (Int × Int)) (zs : List Int) (n : Int) : List (Int × Int) := if rsC H ps zs n = 0 then ps else []
def rsZ (H : Ht) (ps : List (Int × Int)) (zs : List Int) (n : Int) : List Int := if rsC H ps zs n = 0 then (smV H ps zs n).zs else []
theorem sm_void (w : World) (base : Nat) : Sm w base (.slice none 0 0) (.slice none 0 0) (.slice none 0 0) (.slice none 0 0) (.slice none 0 0) (.slice none 0 0) voidH [] [] :=
  ⟨(Tm.void w base).h, (Tm.void w base).a, Prs.nil _ _ _, Nums.nil _ _, .inl rfl, .inl rfl, .inl rfl, .inl rfl⟩
theorem rs_not (H : Ht) (ps : List (Int × Int)) (zs : List Int) (n : Int) (h : rsC H ps zs n ≠ 0) : rsH H ps zs n = voidH ∧ rsP H ps zs n = [] ∧ rsZ H ps zs n = [] := by
  refine ⟨?_, ?_, ?_⟩
  · rw [rsH, if_neg h]
  · rw [rsP, if_neg h]
  · rw [rsZ, if_neg h]
theorem twelveX {v : World} {q : Nat} {t : TypeId} {z0 z1 z2 z3 z4 z5 z6 z7 z8 z9 z10 z11 : Value} (h : Vb v q #[z0, z1, z2, z3, z4, z5, z6, z7, z8, z9, z10, z11] t) (u0 u1 u2 u3 u4 u5 u6 u7 u8 u9 u10 u11 : Value) :
    Vb ((((((((((((v.setCell ⟨q, 0, none⟩ u0).setCell ⟨q, 1, none⟩ u1).setCell ⟨q, 2, none⟩ u2).setCell ⟨q, 3, none⟩ u3).setCell ⟨q, 4, none⟩ u4).setCell ⟨q, 5, none⟩ u5).setCell ⟨q, 6, none⟩ u6).setCell ⟨q, 7, none⟩ u7).setCell ⟨q, 8, none⟩ u8).setCell ⟨q, 9, none⟩ u9).setCell ⟨q, 10, none⟩ u10).setCell ⟨q, 11, none⟩ u11) q #[u0, u1, u2, u3, u4, u5, u6, u7, u8, u9, u10, u11] t ∧ Mq (fun k => k = q) v ((((((((((((v.setCell ⟨q, 0, none⟩ u0).setCell ⟨q, 1, none⟩ u1).setCell ⟨q, 2, none⟩ u2).setCell ⟨q, 3, none⟩ u3).setCell ⟨q, 4, none⟩ u4).setCell ⟨q, 5, none⟩ u5).setCell ⟨q, 6, none⟩ u6).setCell ⟨q, 7, none⟩ u7).setCell ⟨q, 8, none⟩ u8).setCell ⟨q, 9, none⟩ u9).setCell ⟨q, 10, none⟩ u10).setCell ⟨q, 11, none⟩ u11) := by
  have h0 : Vb (v.setCell ⟨q, 0, none⟩ u0) q #[u0, z1, z2, z3, z4, z5, z6, z7, z8, z9, z10, z11] t := h.set 0 u0
  have h1 : Vb ((v.setCell ⟨q, 0, none⟩ u0).setCell ⟨q, 1, none⟩ u1) q #[u0, u1, z2, z3, z4, z5, z6, z7, z8, z9, z10, z11] t := h0.set 1 u1
  have h2 : Vb (((v.setCell ⟨q, 0, none⟩ u0).setCell ⟨q, 1, none⟩ u1).setCell ⟨q, 2, none⟩ u2) q #[u0, u1, u2, z3, z4, z5, z6, z7, z8, z9, z10, z11] t := h1.set 2 u2
  have h3 : Vb ((((v.setCell ⟨q, 0, none⟩ u0).setCell ⟨q, 1, none⟩ u1).setCell ⟨q, 2, none⟩ u2).setCell ⟨q, 3, none⟩ u3) q #[u0, u1, u2, u3, z4, z5, z6, z7, z8, z9, z10, z11] t := h2.set 3 u3
  have h4 : Vb (((((v.setCell ⟨q, 0, none⟩ u0).setCell ⟨q, 1, none⟩ u1).setCell ⟨q, 2, none⟩ u2).setCell ⟨q, 3, none⟩ u3).setCell ⟨q, 4, none⟩ u4) q #[u0, u1, u2, u3, u4, z5, z6, z7, z8, z9, z10, z11] t := h3.set 4 u4
  have h5 : Vb ((((((v.setCell ⟨q, 0, none⟩ u0).setCell ⟨q, 1, none⟩ u1).setCell ⟨q, 2, none⟩ u2).setCell ⟨q, 3, none⟩ u3).setCell ⟨q, 4, none⟩ u4).setCell ⟨q, 5, none⟩ u5) q #[u0, u1, u2, u3, u4, u5, z6, z7, z8, z9, z10, z11] t := h4.set 5 u5
  have h6 : Vb (((((((v.setCell ⟨q, 0, none⟩ u0).setCell ⟨q, 1, none⟩ u1).setCell ⟨q, 2, none⟩ u2).setCell ⟨q, 3, none⟩ u3).setCell ⟨q, 4, none⟩ u4).setCell ⟨q, 5, none⟩ u5).setCell ⟨q, 6, none⟩ u6) q #[u0, u1, u2, u3, u4, u5, u6, z7, z8, z9, z10, z11] t := h5.set 6 u6
  have h7 : Vb ((((((((v.setCell ⟨q, 0, none⟩ u0).setCell ⟨q, 1, none⟩ u1).setCell ⟨q, 2, none⟩ u2).setCell ⟨q, 3, none⟩ u3).setCell ⟨q, 4, none⟩ u4).setCell ⟨q, 5, none⟩ u5).setCell ⟨q, 6, none⟩ u6).setCell ⟨q, 7, none⟩ u7) q #[u0, u1, u2, u3, u4, u5, u6, u7, z8, z9, z10, z11] t := h6.set 7 u7
  have h8 : Vb (((((((((v.setCell ⟨q, 0, none⟩ u0).setCell ⟨q, 1, none⟩ u1).setCell ⟨q, 2, none⟩ u2).setCell ⟨q, 3, none⟩ u3).setCell ⟨q, 4, none⟩ u4).setCell ⟨q, 5, none⟩ u5).setCell ⟨q, 6, none⟩ u6).setCell ⟨q, 7, none⟩ u7).setCell ⟨q, 8, none⟩ u8) q #[u0, u1, u2, u3, u4, u5, u6, u7, u8, z9, z10, z11] t := h7.set 8 u8
  have h9 : Vb ((((((((((v.setCell ⟨q, 0, none⟩ u0).setCell ⟨q, 1, none⟩ u1).setCell ⟨q, 2, none⟩ u2).setCell ⟨q, 3, none⟩ u3).setCell ⟨q, 4, none⟩ u4).setCell ⟨q, 5, none⟩ u5).setCell ⟨q, 6, none⟩ u6).setCell ⟨q, 7, none⟩ u7).setCell ⟨q, 8, none⟩ u8).setCell ⟨q, 9, none⟩ u9) q #[u0, u1, u2, u3, u4, u5, u6, u7, u8, u9, z10, z11] t := h8.set 9 u9
  have h10 : Vb (((((((((((v.setCell ⟨q, 0, none⟩ u0).setCell ⟨q, 1, none⟩ u1).setCell ⟨q, 2, none⟩ u2).setCell ⟨q, 3, none⟩ u3).setCell ⟨q, 4, none⟩ u4).setCell ⟨q, 5, none⟩ u5).setCell ⟨q, 6, none⟩ u6).setCell ⟨q, 7, none⟩ u7).setCell ⟨q, 8, none⟩ u8).setCell ⟨q, 9, none⟩ u9).setCell ⟨q, 10, none⟩ u10) q #[u0, u1, u2, u3, u4, u5, u6, u7, u8, u9, u10, z11] t := h9.set 10 u10
  have h11 : Vb ((((((((((((v.setCell ⟨q, 0, none⟩ u0).setCell ⟨q, 1, none⟩ u1).setCell ⟨q, 2, none⟩ u2).setCell ⟨q, 3, none⟩ u3).setCell ⟨q, 4, none⟩ u4).setCell ⟨q, 5, none⟩ u5).setCell ⟨q, 6, none⟩ u6).setCell ⟨q, 7, none⟩ u7).setCell ⟨q, 8, none⟩ u8).setCell ⟨q, 9, none⟩ u9).setCell ⟨q, 10, none⟩ u10).setCell ⟨q, 11, none⟩ u11) q #[u0, u1, u2, u3, u4, u5, u6, u7, u8, u9, u10, u11] t := h10.set 11 u11
  exact ⟨h11, (((((((((((((Mq.refl (fun k => k = q) v).set ⟨q, 0, none⟩ u0 rfl).set ⟨q, 1, none⟩ u1 rfl).set ⟨q, 2, none⟩ u2 rfl).set ⟨q, 3, none⟩ u3 rfl).set ⟨q, 4, none⟩ u4 rfl).set ⟨q, 5, none⟩ u5 rfl).set ⟨q, 6, none⟩ u6 rfl).set ⟨q, 7, none⟩ u7 rfl).set ⟨q, 8, none⟩ u8 rfl).set ⟨q, 9, none⟩ u9 rfl).set ⟨q, 10, none⟩ u10 rfl).set ⟨q, 11, none⟩ u11 rfl)⟩

set_option maxRecDepth 20000 in
set_option maxHeartbeats 8000000 in
theorem ir_bad (r c i o l m : Value) (H : Ht) (ps : List (Int × Int)) (zs : List Int) (n : Int) (b : Nat) (w : World) (h : Sm w b r c i o l m H ps zs) (hl : ps.length ≤ 1048576) (hz : zs.length ≤ 1048576) (tab : Tab w) (tb : 0 < w.heap.size) (hx : sfV H ps zs ≠ 0) :
    Calls Tryz.prog 7 #[.agg #[r, .int .i64 H.pc, c, .bool H.halted, .bool H.waiting, .bool H.rung, .int .i64 H.done, i, o, l, m], .int .i64 n] w fun e w' => ∃ r' c' i' o' l' m', e = .returned (.agg #[.int .i64 (rsC H ps zs n), r', .int .i64 (rsH H ps zs n).pc, c', .bool (rsH H ps zs n).halted, .bool (rsH H ps zs n).waiting, .bool (rsH H ps zs n).rung, .int .i64 (rsH H ps zs n).done, i', o', l', m']) ∧ Sm w' w.heap.size r' c' i' o' l' m' (rsH H ps zs n) (rsP H ps zs n) (rsZ H ps zs n) ∧ Below w.heap.size w w' := by
  have hv : rsC H ps zs n = sfV H ps zs := by rw [rsC, if_neg hx]
  have hu := rs_not H ps zs n (by rw [hv]; exact hx)
  rw [hu.1, hu.2.1, hu.2.2, hv]
  clear hu hv
  obtain ⟨x, hX⟩ : ∃ x, sfV H ps zs = x := ⟨_, rfl⟩
  have HX : Hid (sfV H ps zs = x) := hX
  rw [hX] at hx ⊢
  have hx0 : (x != 0) = true := by simp [hx]
  clear hX hx
  obtain ⟨a0, k0, e0, _⟩ := h.h.r.shape
  obtain ⟨a1, k1, e1, _⟩ := h.h.c.shape
  obtain ⟨a2, k2, e2, _⟩ := h.h.i.shape
  obtain ⟨a3, k3, e3, _⟩ := h.h.o.shape
  obtain ⟨a4, k4, e4, _⟩ := h.pl.shape
  obtain ⟨a5, k5, e5, _⟩ := h.mm.shape
  subst e0 e1 e2 e3 e4 e5
  generalize hn0 : H.regs.length = n0 at *
  generalize hn1 : H.csr.length = n1 at *
  generalize hn2 : H.inn.length = n2 at *
  generalize hn3 : H.out.length = n3 at *
  obtain ⟨n4, hn4⟩ : ∃ n, ps.length = n := ⟨_, rfl⟩
  rw [hn4] at h ⊢
  obtain ⟨n5, hn5⟩ : ∃ n, zs.length = n := ⟨_, rfl⟩
  rw [hn5] at h ⊢
  have HS : Hid (Sm w b (.slice a0 n0 k0) (.slice a1 n1 k1) (.slice a2 n2 k2) (.slice a3 n3 k3) (.slice a4 n4 k4) (.slice a5 n5 k5) H ps zs) := h
  have HL : Hid (ps.length ≤ 1048576 ∧ zs.length ≤ 1048576) := ⟨hl, hz⟩
  have HT : Hid (Tab w ∧ 0 < w.heap.size) := ⟨tab, tb⟩
  clear h hl hz tab tb hn0 hn1 hn2 hn3 hn4 hn5
  generalize hW : (w.alloc (.cells #[.slice a0 n0 k0, .int .i64 H.pc, .slice a1 n1 k1, .bool H.halted, .bool H.waiting, .bool H.rung, .int .i64 H.done, .slice a2 n2 k2, .slice a3 n3 k3, .slice a4 n4 k4, .slice a5 n5 k5] 32)).alloc (.cells #[.int .i64 0, .slice none 0 0, .int .i64 0, .slice none 0 0, .bool false, .bool false, .bool false, .int .i64 0, .slice none 0 0, .slice none 0 0, .slice none 0 0, .slice none 0 0] 34) = W
  have B0 : Hid (Below w.heap.size w W) := by show Below _ _ _; rw [← hW]; exact al (al (Below.refl _ _) _) _
  obtain ⟨s, hS⟩ : ∃ s, w.heap.size = s := ⟨_, rfl⟩
  have HSs : Hid (w.heap.size = s) := hS
  have Q : Hid (Vb W s #[.slice a0 n0 k0, .int .i64 H.pc, .slice a1 n1 k1, .bool H.halted, .bool H.waiting, .bool H.rung, .int .i64 H.done, .slice a2 n2 k2, .slice a3 n3 k3, .slice a4 n4 k4, .slice a5 n5 k5] 32) := by
    show Vb _ _ _ _
    rw [← hW, ← hS]
    exact (Vb.new _ _ _).push _
  have R : Hid (Vb W (s + 1) #[.int .i64 0, .slice none 0 0, .int .i64 0, .slice none 0 0, .bool false, .bool false, .bool false, .int .i64 0, .slice none 0 0, .slice none 0 0, .slice none 0 0, .slice none 0 0] 34) := by
    have z1 : s + 1 = (w.alloc (.cells #[.slice a0 n0 k0, .int .i64 H.pc, .slice a1 n1 k1, .bool H.halted, .bool H.waiting, .bool H.rung, .int .i64 H.done, .slice a2 n2 k2, .slice a3 n3 k3, .slice a4 n4 k4, .slice a5 n5 k5] 32)).heap.size := by rw [← hS]; simp
    show Vb _ _ _ _
    rw [← hW, z1]
    exact Vb.new _ _ _
  have q0 := Q.out.cell 0 rfl
  have q1 := Q.out.cell 1 rfl
  have q2 := Q.out.cell 2 rfl
  have q3 := Q.out.cell 3 rfl
  have q4 := Q.out.cell 4 rfl
  have q5 := Q.out.cell 5 rfl
  have q6 := Q.out.cell 6 rfl
  have q7 := Q.out.cell 7 rfl
  have q8 := Q.out.cell 8 rfl
  have q9 := Q.out.cell 9 rfl
  have q10 := Q.out.cell 10 rfl
  go_enter Tryz.func7, Tryz.ntmps7
  go_wp2_with fail
  clear hW hS q0 q1 q2 q3 q4 q5 q6 q7 q8 q9 q10
  refine (i_soloFault _ _ _ _ _ _ H ps zs _ _ (HS.out.keep B0.out) HL.out.1).mono ?_
  rw [HX.out]
  rintro e w1 ⟨rfl, b1⟩
  have B1 : Hid (Below w.heap.size w w1) := on B0.out b1
  have R1 : Hid (Vb w1 (s + 1) #[.int .i64 0, .slice none 0 0, .int .i64 0, .slice none 0 0, .bool false, .bool false, .bool false, .int .i64 0, .slice none 0 0, .slice none 0 0, .slice none 0 0, .slice none 0 0] 34) := R.out.keep b1
  clear b1
  have p0 := R1.out.cell 0 rfl
  have p1 := R1.out.cell 1 rfl
  have p2 := R1.out.cell 2 rfl
  have p3 := R1.out.cell 3 rfl
  have p4 := R1.out.cell 4 rfl
  have p5 := R1.out.cell 5 rfl
  have p6 := R1.out.cell 6 rfl
  have p7 := R1.out.cell 7 rfl
  have p8 := R1.out.cell 8 rfl
  have p9 := R1.out.cell 9 rfl
  have p10 := R1.out.cell 10 rfl
  have p11 := R1.out.cell 11 rfl
  have f0 := R1.out.free 0
  have f1 := R1.out.free 1
  have f2 := R1.out.free 2
  have f3 := R1.out.free 3
  have f4 := R1.out.free 4
  have f5 := R1.out.free 5
  have f6 := R1.out.free 6
  have f7 := R1.out.free 7
  have f8 := R1.out.free 8
  have f9 := R1.out.free 9
  have f10 := R1.out.free 10
  have f11 := R1.out.free 11
  have lt := R1.out.lt
  go_wp2_with fail
  clear p0 p1 p2 p3 p4 p5 p6 p7 p8 p9 p10 p11 f0 f1 f2 f3 f4 f5 f6 f7 f8 f9 f10 f11 lt
  have NN : Hid (_ ∧ _) := twelveX R1.out (.int .i64 x) (.slice none 0 0) (.int .i64 0) (.slice none 0 0) (.bool false) (.bool false) (.bool false) (.int .i64 0) (.slice none 0 0) (.slice none 0 0) (.slice none 0 0) (.slice none 0 0)
  generalize ((((((((((((w1.setCell ⟨s + 1, 0, none⟩ (.int .i64 x)).setCell ⟨s + 1, 1, none⟩ (.slice none 0 0)).setCell ⟨s + 1, 2, none⟩ (.int .i64 0)).setCell ⟨s + 1, 3, none⟩ (.slice none 0 0)).setCell ⟨s + 1, 4, none⟩ (.bool false)).setCell ⟨s + 1, 5, none⟩ (.bool false)).setCell ⟨s + 1, 6, none⟩ (.bool false)).setCell ⟨s + 1, 7, none⟩ (.int .i64 0)).setCell ⟨s + 1, 8, none⟩ (.slice none 0 0)).setCell ⟨s + 1, 9, none⟩ (.slice none 0 0)).setCell ⟨s + 1, 10, none⟩ (.slice none 0 0)).setCell ⟨s + 1, 11, none⟩ (.slice none 0 0)) = W9 at *
  have x0 := NN.out.1.cell 0 rfl
  have x1 := NN.out.1.cell 1 rfl
  have x2 := NN.out.1.cell 2 rfl
  have x3 := NN.out.1.cell 3 rfl
  have x4 := NN.out.1.cell 4 rfl
  have x5 := NN.out.1.cell 5 rfl
  have x6 := NN.out.1.cell 6 rfl
  have x7 := NN.out.1.cell 7 rfl
  have x8 := NN.out.1.cell 8 rfl
  have x9 := NN.out.1.cell 9 rfl
  have x10 := NN.out.1.cell 10 rfl
  have x11 := NN.out.1.cell 11 rfl
  exact bodyPost_ret (v := .agg #[.int .i64 x, .slice none 0 0, .int .i64 0, .slice none 0 0, .bool false, .bool false, .bool false, .int .i64 0, .slice none 0 0, .slice none 0 0, .slice none 0 0, .slice none 0 0]) (by simp [results, Tryz.results7, go_sem, x0, x1, x2, x3, x4, x5, x6, x7, x8, x9, x10, x11]) rfl
    ⟨_, _, _, _, _, _, rfl, sm_void _ _, Mq.under B1.out NN.out.2 fun k e => by have := HSs.out; omega⟩
set_option maxRecDepth 20000 in
set_option maxHeartbeats 8000000 in
theorem ir_code (r c i o l m : Value) (H : Ht) (ps : List (Int × Int)) (zs : List Int) (n : Int) (b : Nat) (w : World) (h : Sm w b r c i o l m H ps zs) (hl : ps.length ≤ 1048576) (hz : zs.length ≤ 1048576) (tab : Tab w) (tb : 0 < w.heap.size) (hx : sfV H ps zs = 0) (hc : (smV H ps zs n).code ≠ 0) :
    Calls Tryz.prog 7 #[.agg #[r, .int .i64 H.pc, c, .bool H.halted, .bool H.waiting, .bool H.rung, .int .i64 H.done, i, o, l, m], .int .i64 n] w fun e w' => ∃ r' c' i' o' l' m', e = .returned (.agg #[.int .i64 (rsC H ps zs n), r', .int .i64 (rsH H ps zs n).pc, c', .bool (rsH H ps zs n).halted, .bool (rsH H ps zs n).waiting, .bool (rsH H ps zs n).rung, .int .i64 (rsH H ps zs n).done, i', o', l', m']) ∧ Sm w' w.heap.size r' c' i' o' l' m' (rsH H ps zs n) (rsP H ps zs n) (rsZ H ps zs n) ∧ Below w.heap.size w w' := by
  have hv : rsC H ps zs n = (smV H ps zs n).code := by rw [rsC, if_pos hx]
  have hu := rs_not H ps zs n (by rw [hv]; exact hc)
  rw [hu.1, hu.2.1, hu.2.2, hv]
  clear hu hv
  obtain ⟨Y, hY⟩ : ∃ Y, smV H ps zs n = Y := ⟨_, rfl⟩
  have HY : Hid (smV H ps zs n = Y) := hY
  have HX : Hid (sfV H ps zs = 0) := hx
  rw [hY] at hc ⊢
  have hc0 : (Y.code != 0) = true := by simp [hc]
  clear hc hx hY
  obtain ⟨a0, k0, e0, _⟩ := h.h.r.shape
  obtain ⟨a1, k1, e1, _⟩ := h.h.c.shape
  obtain ⟨a2, k2, e2, _⟩ := h.h.i.shape
  obtain ⟨a3, k3, e3, _⟩ := h.h.o.shape
  obtain ⟨a4, k4, e4, _⟩ := h.pl.shape
  obtain ⟨a5, k5, e5, _⟩ := h.mm.shape
  subst e0 e1 e2 e3 e4 e5
  generalize hn0 : H.regs.length = n0 at *
  generalize hn1 : H.csr.length = n1 at *
  generalize hn2 : H.inn.length = n2 at *
  generalize hn3 : H.out.length = n3 at *
  obtain ⟨n4, hn4⟩ : ∃ n, ps.length = n := ⟨_, rfl⟩
  rw [hn4] at h ⊢
  obtain ⟨n5, hn5⟩ : ∃ n, zs.length = n := ⟨_, rfl⟩
  rw [hn5] at h ⊢
  have HS : Hid (Sm w b (.slice a0 n0 k0) (.slice a1 n1 k1) (.slice a2 n2 k2) (.slice a3 n3 k3) (.slice a4 n4 k4) (.slice a5 n5 k5) H ps zs) := h
  have HL : Hid (ps.length ≤ 1048576 ∧ zs.length ≤ 1048576) := ⟨hl, hz⟩
  have HT : Hid (Tab w ∧ 0 < w.heap.size) := ⟨tab, tb⟩
  clear h hl hz tab tb hn0 hn1 hn2 hn3 hn4 hn5
  generalize hW : (w.alloc (.cells #[.slice a0 n0 k0, .int .i64 H.pc, .slice a1 n1 k1, .bool H.halted, .bool H.waiting, .bool H.rung, .int .i64 H.done, .slice a2 n2 k2, .slice a3 n3 k3, .slice a4 n4 k4, .slice a5 n5 k5] 32)).alloc (.cells #[.int .i64 0, .slice none 0 0, .int .i64 0, .slice none 0 0, .bool false, .bool false, .bool false, .int .i64 0, .slice none 0 0, .slice none 0 0, .slice none 0 0, .slice none 0 0] 34) = W
  have B0 : Hid (Below w.heap.size w W) := by show Below _ _ _; rw [← hW]; exact al (al (Below.refl _ _) _) _
  obtain ⟨s, hS⟩ : ∃ s, w.heap.size = s := ⟨_, rfl⟩
  have HSs : Hid (w.heap.size = s) := hS
  have Q : Hid (Vb W s #[.slice a0 n0 k0, .int .i64 H.pc, .slice a1 n1 k1, .bool H.halted, .bool H.waiting, .bool H.rung, .int .i64 H.done, .slice a2 n2 k2, .slice a3 n3 k3, .slice a4 n4 k4, .slice a5 n5 k5] 32) := by
    show Vb _ _ _ _
    rw [← hW, ← hS]
    exact (Vb.new _ _ _).push _
  have R : Hid (Vb W (s + 1) #[.int .i64 0, .slice none 0 0, .int .i64 0, .slice none 0 0, .bool false, .bool false, .bool false, .int .i64 0, .slice none 0 0, .slice none 0 0, .slice none 0 0, .slice none 0 0] 34) := by
    have z1 : s + 1 = (w.alloc (.cells #[.slice a0 n0 k0, .int .i64 H.pc, .slice a1 n1 k1, .bool H.halted, .bool H.waiting, .bool H.rung, .int .i64 H.done, .slice a2 n2 k2, .slice a3 n3 k3, .slice a4 n4 k4, .slice a5 n5 k5] 32)).heap.size := by rw [← hS]; simp
    show Vb _ _ _ _
    rw [← hW, z1]
    exact Vb.new _ _ _
  have q0 := Q.out.cell 0 rfl
  have q1 := Q.out.cell 1 rfl
  have q2 := Q.out.cell 2 rfl
  have q3 := Q.out.cell 3 rfl
  have q4 := Q.out.cell 4 rfl
  have q5 := Q.out.cell 5 rfl
  have q6 := Q.out.cell 6 rfl
  have q7 := Q.out.cell 7 rfl
  have q8 := Q.out.cell 8 rfl
  have q9 := Q.out.cell 9 rfl
  have q10 := Q.out.cell 10 rfl
  go_enter Tryz.func7, Tryz.ntmps7
  go_wp2_with fail
  clear hW hS q0 q1 q2 q3 q4 q5 q6 q7 q8 q9 q10
  refine (i_soloFault _ _ _ _ _ _ H ps zs _ _ (HS.out.keep B0.out) HL.out.1).mono ?_
  rw [HX.out]
  rintro e w1 ⟨rfl, b1⟩
  have B1 : Hid (Below w.heap.size w w1) := on B0.out b1
  have Q1 : Hid (Vb w1 s #[.slice a0 n0 k0, .int .i64 H.pc, .slice a1 n1 k1, .bool H.halted, .bool H.waiting, .bool H.rung, .int .i64 H.done, .slice a2 n2 k2, .slice a3 n3 k3, .slice a4 n4 k4, .slice a5 n5 k5] 32) := Q.out.keep b1
  have R1 : Hid (Vb w1 (s + 1) #[.int .i64 0, .slice none 0 0, .int .i64 0, .slice none 0 0, .bool false, .bool false, .bool false, .int .i64 0, .slice none 0 0, .slice none 0 0, .slice none 0 0, .slice none 0 0] 34) := R.out.keep b1
  clear b1 Q R
  have q0 := Q1.out.cell 0 rfl
  have q1 := Q1.out.cell 1 rfl
  have q2 := Q1.out.cell 2 rfl
  have q3 := Q1.out.cell 3 rfl
  have q4 := Q1.out.cell 4 rfl
  have q5 := Q1.out.cell 5 rfl
  have q6 := Q1.out.cell 6 rfl
  have q7 := Q1.out.cell 7 rfl
  have q8 := Q1.out.cell 8 rfl
  have q9 := Q1.out.cell 9 rfl
  have q10 := Q1.out.cell 10 rfl
  go_wp2_with fail
  clear q0 q1 q2 q3 q4 q5 q6 q7 q8 q9 q10
  have CALL := i_stepMany _ _ _ _ H _ _ _ ps _ _ _ zs n b w1 (HS.out.h.keep B1.out) (HS.out.pl.keep B1.out) HL.out.1 (HS.out.mm.keep B1.out) HL.out.2 (HT.out.1.keep B1.out) (Nat.lt_of_lt_of_le HT.out.2 B1.out.size)
  rw [HY.out] at CALL
  refine CALL.mono ?_
  clear CALL
  rintro e w2 ⟨y0, y1, y2, y3, y4, rfl, t2, b2⟩
  obtain ⟨ya0, yk0, g0, _⟩ := t2.h.r.shape
  obtain ⟨ya1, yk1, g1, _⟩ := t2.h.c.shape
  obtain ⟨ya2, yk2, g2, _⟩ := t2.h.i.shape
  obtain ⟨ya3, yk3, g3, _⟩ := t2.h.o.shape
  obtain ⟨ya4, yk4, g4, _⟩ := t2.mm.shape
  subst g0 g1 g2 g3 g4
  obtain ⟨e0, le0⟩ : ∃ n, Y.H.regs.length = n := ⟨_, rfl⟩
  obtain ⟨e1, le1⟩ : ∃ n, Y.H.csr.length = n := ⟨_, rfl⟩
  obtain ⟨e2, le2⟩ : ∃ n, Y.H.inn.length = n := ⟨_, rfl⟩
  obtain ⟨e3, le3⟩ : ∃ n, Y.H.out.length = n := ⟨_, rfl⟩
  obtain ⟨e4, le4⟩ : ∃ n, Y.zs.length = n := ⟨_, rfl⟩
  rw [le0, le1, le2, le3, le4] at t2 ⊢
  clear le0 le1 le2 le3 le4
  have T2 : Hid (Tm w2 w1.heap.size (.slice ya0 e0 yk0) (.slice ya1 e1 yk1) (.slice ya2 e2 yk2) (.slice ya3 e3 yk3) (.slice ya4 e4 yk4) Y.H Y.zs) := t2
  have B2 : Hid (Below w.heap.size w w2) := on B1.out b2
  have Q2 : Hid (Vb w2 s #[.slice a0 n0 k0, .int .i64 H.pc, .slice a1 n1 k1, .bool H.halted, .bool H.waiting, .bool H.rung, .int .i64 H.done, .slice a2 n2 k2, .slice a3 n3 k3, .slice a4 n4 k4, .slice a5 n5 k5] 32) := Q1.out.keep b2
  have R2 : Hid (Vb w2 (s + 1) #[.int .i64 0, .slice none 0 0, .int .i64 0, .slice none 0 0, .bool false, .bool false, .bool false, .int .i64 0, .slice none 0 0, .slice none 0 0, .slice none 0 0, .slice none 0 0] 34) := R1.out.keep b2
  have Z2 : Hid (s + 1 < w1.heap.size ∧ w1.heap.size ≤ w2.heap.size) := ⟨R1.out.lt, b2.size⟩
  clear t2 b2 Q1 R1
  have R3 : Hid (Vb (w2.alloc (.cells #[.int .i64 Y.code, .int .i64 Y.ca, .int .i64 Y.ri, .slice ya0 e0 yk0, .int .i64 Y.H.pc, .slice ya1 e1 yk1, .bool Y.H.halted, .bool Y.H.waiting, .bool Y.H.rung, .int .i64 Y.H.done, .slice ya2 e2 yk2, .slice ya3 e3 yk3, .slice ya4 e4 yk4] 57)) (s + 1) #[.int .i64 0, .slice none 0 0, .int .i64 0, .slice none 0 0, .bool false, .bool false, .bool false, .int .i64 0, .slice none 0 0, .slice none 0 0, .slice none 0 0, .slice none 0 0] 34) := R2.out.push _
  have B3 : Hid (Below w.heap.size w (w2.alloc (.cells #[.int .i64 Y.code, .int .i64 Y.ca, .int .i64 Y.ri, .slice ya0 e0 yk0, .int .i64 Y.H.pc, .slice ya1 e1 yk1, .bool Y.H.halted, .bool Y.H.waiting, .bool Y.H.rung, .int .i64 Y.H.done, .slice ya2 e2 yk2, .slice ya3 e3 yk3, .slice ya4 e4 yk4] 57))) := al B2.out _
  have Y3 : Hid (Vb (w2.alloc (.cells #[.int .i64 Y.code, .int .i64 Y.ca, .int .i64 Y.ri, .slice ya0 e0 yk0, .int .i64 Y.H.pc, .slice ya1 e1 yk1, .bool Y.H.halted, .bool Y.H.waiting, .bool Y.H.rung, .int .i64 Y.H.done, .slice ya2 e2 yk2, .slice ya3 e3 yk3, .slice ya4 e4 yk4] 57)) w2.heap.size #[.int .i64 Y.code, .int .i64 Y.ca, .int .i64 Y.ri, .slice ya0 e0 yk0, .int .i64 Y.H.pc, .slice ya1 e1 yk1, .bool Y.H.halted, .bool Y.H.waiting, .bool Y.H.rung, .int .i64 Y.H.done, .slice ya2 e2 yk2, .slice ya3 e3 yk3, .slice ya4 e4 yk4] 57) := Vb.new _ _ _
  go_upto_region 5 with fail
  generalize (w2.alloc (.cells #[.int .i64 Y.code, .int .i64 Y.ca, .int .i64 Y.ri, .slice ya0 e0 yk0, .int .i64 Y.H.pc, .slice ya1 e1 yk1, .bool Y.H.halted, .bool Y.H.waiting, .bool Y.H.rung, .int .i64 Y.H.done, .slice ya2 e2 yk2, .slice ya3 e3 yk3, .slice ya4 e4 yk4] 57)) = W2 at *
  generalize w2.heap.size = s2 at *
  have y0 := Y3.out.cell 0 rfl
  have p0 := R3.out.cell 0 rfl
  have p1 := R3.out.cell 1 rfl
  have p2 := R3.out.cell 2 rfl
  have p3 := R3.out.cell 3 rfl
  have p4 := R3.out.cell 4 rfl
  have p5 := R3.out.cell 5 rfl
  have p6 := R3.out.cell 6 rfl
  have p7 := R3.out.cell 7 rfl
  have p8 := R3.out.cell 8 rfl
  have p9 := R3.out.cell 9 rfl
  have p10 := R3.out.cell 10 rfl
  have p11 := R3.out.cell 11 rfl
  have f0 := R3.out.free 0
  have f1 := R3.out.free 1
  have f2 := R3.out.free 2
  have f3 := R3.out.free 3
  have f4 := R3.out.free 4
  have f5 := R3.out.free 5
  have f6 := R3.out.free 6
  have f7 := R3.out.free 7
  have f8 := R3.out.free 8
  have f9 := R3.out.free 9
  have f10 := R3.out.free 10
  have f11 := R3.out.free 11
  have lt := R3.out.lt
  go_wp2_with fail
  clear p0 p1 p2 p3 p4 p5 p6 p7 p8 p9 p10 p11 f0 f1 f2 f3 f4 f5 f6 f7 f8 f9 f10 f11 lt y0
  have NN : Hid (_ ∧ _) := twelveX R3.out (.int .i64 Y.code) (.slice none 0 0) (.int .i64 0) (.slice none 0 0) (.bool false) (.bool false) (.bool false) (.int .i64 0) (.slice none 0 0) (.slice none 0 0) (.slice none 0 0) (.slice none 0 0)
  generalize ((((((((((((W2.setCell ⟨s + 1, 0, none⟩ (.int .i64 Y.code)).setCell ⟨s + 1, 1, none⟩ (.slice none 0 0)).setCell ⟨s + 1, 2, none⟩ (.int .i64 0)).setCell ⟨s + 1, 3, none⟩ (.slice none 0 0)).setCell ⟨s + 1, 4, none⟩ (.bool false)).setCell ⟨s + 1, 5, none⟩ (.bool false)).setCell ⟨s + 1, 6, none⟩ (.bool false)).setCell ⟨s + 1, 7, none⟩ (.int .i64 0)).setCell ⟨s + 1, 8, none⟩ (.slice none 0 0)).setCell ⟨s + 1, 9, none⟩ (.slice none 0 0)).setCell ⟨s + 1, 10, none⟩ (.slice none 0 0)).setCell ⟨s + 1, 11, none⟩ (.slice none 0 0)) = W9 at *
  have x0 := NN.out.1.cell 0 rfl
  have x1 := NN.out.1.cell 1 rfl
  have x2 := NN.out.1.cell 2 rfl
  have x3 := NN.out.1.cell 3 rfl
  have x4 := NN.out.1.cell 4 rfl
  have x5 := NN.out.1.cell 5 rfl
  have x6 := NN.out.1.cell 6 rfl
  have x7 := NN.out.1.cell 7 rfl
  have x8 := NN.out.1.cell 8 rfl
  have x9 := NN.out.1.cell 9 rfl
  have x10 := NN.out.1.cell 10 rfl
  have x11 := NN.out.1.cell 11 rfl
  exact bodyPost_ret (v := .agg #[.int .i64 Y.code, .slice none 0 0, .int .i64 0, .slice none 0 0, .bool false, .bool false, .bool false, .int .i64 0, .slice none 0 0, .slice none 0 0, .slice none 0 0, .slice none 0 0]) (by simp [results, Tryz.results7, go_sem, x0, x1, x2, x3, x4, x5, x6, x7, x8, x9, x10, x11]) rfl
    ⟨_, _, _, _, _, _, rfl, sm_void _ _, Mq.under B3.out NN.out.2 fun k e => by have := HSs.out; omega⟩
def Sj12 (W : World) (q : Nat) (w' : World) : Prop := Mq (fun k => k = q) W w' ∧ w'.there q 0 12
theorem Sj12.step {W w w' : World} {q : Nat} (h : Sj12 W q w) (hq : q < W.heap.size) (b : Below w.heap.size w w') : Sj12 W q w' :=
  ⟨h.1.trans (Mq.of (below_grown b none) fun k e => by cases e), there_below h.2 (Nat.lt_of_lt_of_le hq h.1.size) b⟩
theorem Sj12.set {W w : World} {q : Nat} (h : Sj12 W q w) (vs : List Value) : Sj12 W q (w.setCells q 0 vs) := ⟨h.1.trans (mq_cells q vs w 0), World.there_setCells h.2 _ _ _⟩
set_option maxRecDepth 20000 in
set_option maxHeartbeats 8000000 in
theorem ir_good (r c i o l m : Value) (H : Ht) (ps : List (Int × Int)) (zs : List Int) (n : Int) (b : Nat) (w : World) (h : Sm w b r c i o l m H ps zs) (hl : ps.length ≤ 1048576) (hz : zs.length ≤ 1048576) (tab : Tab w) (tb : 0 < w.heap.size) (hx : sfV H ps zs = 0) (hc : (smV H ps zs n).code = 0) :
    Calls Tryz.prog 7 #[.agg #[r, .int .i64 H.pc, c, .bool H.halted, .bool H.waiting, .bool H.rung, .int .i64 H.done, i, o, l, m], .int .i64 n] w fun e w' => ∃ r' c' i' o' l' m', e = .returned (.agg #[.int .i64 (rsC H ps zs n), r', .int .i64 (rsH H ps zs n).pc, c', .bool (rsH H ps zs n).halted, .bool (rsH H ps zs n).waiting, .bool (rsH H ps zs n).rung, .int .i64 (rsH H ps zs n).done, i', o', l', m']) ∧ Sm w' w.heap.size r' c' i' o' l' m' (rsH H ps zs n) (rsP H ps zs n) (rsZ H ps zs n) ∧ Below w.heap.size w w' := by
  have hv : rsC H ps zs n = 0 := by rw [rsC, if_pos hx]; exact hc
  have hu : rsH H ps zs n = (smV H ps zs n).H ∧ rsP H ps zs n = ps ∧ rsZ H ps zs n = (smV H ps zs n).zs := ⟨by rw [rsH, if_pos hv], by rw [rsP, if_pos hv], by rw [rsZ, if_pos hv]⟩
  rw [hu.1, hu.2.1, hu.2.2, hv]
  clear hu hv
  obtain ⟨Y, hY⟩ : ∃ Y, smV H ps zs n = Y := ⟨_, rfl⟩
  have HY : Hid (smV H ps zs n = Y) := hY
  have HX : Hid (sfV H ps zs = 0) := hx
  rw [hY] at hc ⊢
  have hc0 : (Y.code != 0) = false := by simp [hc]
  clear hc hx hY
  obtain ⟨a0, k0, e0, _⟩ := h.h.r.shape
  obtain ⟨a1, k1, e1, _⟩ := h.h.c.shape
  obtain ⟨a2, k2, e2, _⟩ := h.h.i.shape
  obtain ⟨a3, k3, e3, _⟩ := h.h.o.shape
  obtain ⟨a4, k4, e4, _⟩ := h.pl.shape
  obtain ⟨a5, k5, e5, _⟩ := h.mm.shape
  subst e0 e1 e2 e3 e4 e5
  generalize hn0 : H.regs.length = n0 at *
  generalize hn1 : H.csr.length = n1 at *
  generalize hn2 : H.inn.length = n2 at *
  generalize hn3 : H.out.length = n3 at *
  obtain ⟨n4, hn4⟩ : ∃ n, ps.length = n := ⟨_, rfl⟩
  rw [hn4] at h ⊢
  obtain ⟨n5, hn5⟩ : ∃ n, zs.length = n := ⟨_, rfl⟩
  rw [hn5] at h ⊢
  have HS : Hid (Sm w b (.slice a0 n0 k0) (.slice a1 n1 k1) (.slice a2 n2 k2) (.slice a3 n3 k3) (.slice a4 n4 k4) (.slice a5 n5 k5) H ps zs) := h
  have HL : Hid (ps.length ≤ 1048576 ∧ zs.length ≤ 1048576) := ⟨hl, hz⟩
  have HT : Hid (Tab w ∧ 0 < w.heap.size) := ⟨tab, tb⟩
  clear h hl hz tab tb hn0 hn1 hn2 hn3 hn4 hn5
  generalize hW : (w.alloc (.cells #[.slice a0 n0 k0, .int .i64 H.pc, .slice a1 n1 k1, .bool H.halted, .bool H.waiting, .bool H.rung, .int .i64 H.done, .slice a2 n2 k2, .slice a3 n3 k3, .slice a4 n4 k4, .slice a5 n5 k5] 32)).alloc (.cells #[.int .i64 0, .slice none 0 0, .int .i64 0, .slice none 0 0, .bool false, .bool false, .bool false, .int .i64 0, .slice none 0 0, .slice none 0 0, .slice none 0 0, .slice none 0 0] 34) = W
  have B0 : Hid (Below w.heap.size w W) := by show Below _ _ _; rw [← hW]; exact al (al (Below.refl _ _) _) _
  obtain ⟨s, hS⟩ : ∃ s, w.heap.size = s := ⟨_, rfl⟩
  have HSs : Hid (w.heap.size = s) := hS
  have Q : Hid (Vb W s #[.slice a0 n0 k0, .int .i64 H.pc, .slice a1 n1 k1, .bool H.halted, .bool H.waiting, .bool H.rung, .int .i64 H.done, .slice a2 n2 k2, .slice a3 n3 k3, .slice a4 n4 k4, .slice a5 n5 k5] 32) := by
    show Vb _ _ _ _
    rw [← hW, ← hS]
    exact (Vb.new _ _ _).push _
  have R : Hid (Vb W (s + 1) #[.int .i64 0, .slice none 0 0, .int .i64 0, .slice none 0 0, .bool false, .bool false, .bool false, .int .i64 0, .slice none 0 0, .slice none 0 0, .slice none 0 0, .slice none 0 0] 34) := by
    have z1 : s + 1 = (w.alloc (.cells #[.slice a0 n0 k0, .int .i64 H.pc, .slice a1 n1 k1, .bool H.halted, .bool H.waiting, .bool H.rung, .int .i64 H.done, .slice a2 n2 k2, .slice a3 n3 k3, .slice a4 n4 k4, .slice a5 n5 k5] 32)).heap.size := by rw [← hS]; simp
    show Vb _ _ _ _
    rw [← hW, z1]
    exact Vb.new _ _ _
  have q0 := Q.out.cell 0 rfl
  have q1 := Q.out.cell 1 rfl
  have q2 := Q.out.cell 2 rfl
  have q3 := Q.out.cell 3 rfl
  have q4 := Q.out.cell 4 rfl
  have q5 := Q.out.cell 5 rfl
  have q6 := Q.out.cell 6 rfl
  have q7 := Q.out.cell 7 rfl
  have q8 := Q.out.cell 8 rfl
  have q9 := Q.out.cell 9 rfl
  have q10 := Q.out.cell 10 rfl
  go_enter Tryz.func7, Tryz.ntmps7
  go_wp2_with fail
  clear hW hS q0 q1 q2 q3 q4 q5 q6 q7 q8 q9 q10
  refine (i_soloFault _ _ _ _ _ _ H ps zs _ _ (HS.out.keep B0.out) HL.out.1).mono ?_
  rw [HX.out]
  rintro e w1 ⟨rfl, b1⟩
  have B1 : Hid (Below w.heap.size w w1) := on B0.out b1
  have Q1 : Hid (Vb w1 s #[.slice a0 n0 k0, .int .i64 H.pc, .slice a1 n1 k1, .bool H.halted, .bool H.waiting, .bool H.rung, .int .i64 H.done, .slice a2 n2 k2, .slice a3 n3 k3, .slice a4 n4 k4, .slice a5 n5 k5] 32) := Q.out.keep b1
  have R1 : Hid (Vb w1 (s + 1) #[.int .i64 0, .slice none 0 0, .int .i64 0, .slice none 0 0, .bool false, .bool false, .bool false, .int .i64 0, .slice none 0 0, .slice none 0 0, .slice none 0 0, .slice none 0 0] 34) := R.out.keep b1
  clear b1 Q R
  have q0 := Q1.out.cell 0 rfl
  have q1 := Q1.out.cell 1 rfl
  have q2 := Q1.out.cell 2 rfl
  have q3 := Q1.out.cell 3 rfl
  have q4 := Q1.out.cell 4 rfl
  have q5 := Q1.out.cell 5 rfl
  have q6 := Q1.out.cell 6 rfl
  have q7 := Q1.out.cell 7 rfl
  have q8 := Q1.out.cell 8 rfl
  have q9 := Q1.out.cell 9 rfl
  have q10 := Q1.out.cell 10 rfl
  go_wp2_with fail
  clear q0 q1 q2 q3 q4 q5 q6 q7 q8 q9 q10
  have CALL := i_stepMany _ _ _ _ H _ _ _ ps _ _ _ zs n b w1 (HS.out.h.keep B1.out) (HS.out.pl.keep B1.out) HL.out.1 (HS.out.mm.keep B1.out) HL.out.2 (HT.out.1.keep B1.out) (Nat.lt_of_lt_of_le HT.out.2 B1.out.size)
  rw [HY.out] at CALL
  refine CALL.mono ?_
  clear CALL
  rintro e w2 ⟨y0, y1, y2, y3, y4, rfl, t2, b2⟩
  obtain ⟨ya0, yk0, g0, _⟩ := t2.h.r.shape
  obtain ⟨ya1, yk1, g1, _⟩ := t2.h.c.shape
  obtain ⟨ya2, yk2, g2, _⟩ := t2.h.i.shape
  obtain ⟨ya3, yk3, g3, _⟩ := t2.h.o.shape
  obtain ⟨ya4, yk4, g4, _⟩ := t2.mm.shape
  subst g0 g1 g2 g3 g4
  obtain ⟨e0, le0⟩ : ∃ n, Y.H.regs.length = n := ⟨_, rfl⟩
  obtain ⟨e1, le1⟩ : ∃ n, Y.H.csr.length = n := ⟨_, rfl⟩
  obtain ⟨e2, le2⟩ : ∃ n, Y.H.inn.length = n := ⟨_, rfl⟩
  obtain ⟨e3, le3⟩ : ∃ n, Y.H.out.length = n := ⟨_, rfl⟩
  obtain ⟨e4, le4⟩ : ∃ n, Y.zs.length = n := ⟨_, rfl⟩
  rw [le0, le1, le2, le3, le4] at t2 ⊢
  clear le0 le1 le2 le3 le4
  have T2 : Hid (Tm w2 w1.heap.size (.slice ya0 e0 yk0) (.slice ya1 e1 yk1) (.slice ya2 e2 yk2) (.slice ya3 e3 yk3) (.slice ya4 e4 yk4) Y.H Y.zs) := t2
  have B2 : Hid (Below w.heap.size w w2) := on B1.out b2
  have Q2 : Hid (Vb w2 s #[.slice a0 n0 k0, .int .i64 H.pc, .slice a1 n1 k1, .bool H.halted, .bool H.waiting, .bool H.rung, .int .i64 H.done, .slice a2 n2 k2, .slice a3 n3 k3, .slice a4 n4 k4, .slice a5 n5 k5] 32) := Q1.out.keep b2
  have R2 : Hid (Vb w2 (s + 1) #[.int .i64 0, .slice none 0 0, .int .i64 0, .slice none 0 0, .bool false, .bool false, .bool false, .int .i64 0, .slice none 0 0, .slice none 0 0, .slice none 0 0, .slice none 0 0] 34) := R1.out.keep b2
  have Z2 : Hid (s + 1 < w1.heap.size ∧ w1.heap.size ≤ w2.heap.size) := ⟨R1.out.lt, b2.size⟩
  clear t2 b2 Q1 R1
  have B3 : Hid (Below w.heap.size w (w2.alloc (.cells #[.int .i64 Y.code, .int .i64 Y.ca, .int .i64 Y.ri, .slice ya0 e0 yk0, .int .i64 Y.H.pc, .slice ya1 e1 yk1, .bool Y.H.halted, .bool Y.H.waiting, .bool Y.H.rung, .int .i64 Y.H.done, .slice ya2 e2 yk2, .slice ya3 e3 yk3, .slice ya4 e4 yk4] 57))) := al B2.out _
  have R3 : Hid (Vb (w2.alloc (.cells #[.int .i64 Y.code, .int .i64 Y.ca, .int .i64 Y.ri, .slice ya0 e0 yk0, .int .i64 Y.H.pc, .slice ya1 e1 yk1, .bool Y.H.halted, .bool Y.H.waiting, .bool Y.H.rung, .int .i64 Y.H.done, .slice ya2 e2 yk2, .slice ya3 e3 yk3, .slice ya4 e4 yk4] 57)) (s + 1) #[.int .i64 0, .slice none 0 0, .int .i64 0, .slice none 0 0, .bool false, .bool false, .bool false, .int .i64 0, .slice none 0 0, .slice none 0 0, .slice none 0 0, .slice none 0 0] 34) := R2.out.push _
  have Q3 : Hid (Vb (w2.alloc (.cells #[.int .i64 Y.code, .int .i64 Y.ca, .int .i64 Y.ri, .slice ya0 e0 yk0, .int .i64 Y.H.pc, .slice ya1 e1 yk1, .bool Y.H.halted, .bool Y.H.waiting, .bool Y.H.rung, .int .i64 Y.H.done, .slice ya2 e2 yk2, .slice ya3 e3 yk3, .slice ya4 e4 yk4] 57)) s #[.slice a0 n0 k0, .int .i64 H.pc, .slice a1 n1 k1, .bool H.halted, .bool H.waiting, .bool H.rung, .int .i64 H.done, .slice a2 n2 k2, .slice a3 n3 k3, .slice a4 n4 k4, .slice a5 n5 k5] 32) := Q2.out.push _
  have Y3 : Hid (Vb (w2.alloc (.cells #[.int .i64 Y.code, .int .i64 Y.ca, .int .i64 Y.ri, .slice ya0 e0 yk0, .int .i64 Y.H.pc, .slice ya1 e1 yk1, .bool Y.H.halted, .bool Y.H.waiting, .bool Y.H.rung, .int .i64 Y.H.done, .slice ya2 e2 yk2, .slice ya3 e3 yk3, .slice ya4 e4 yk4] 57)) w2.heap.size #[.int .i64 Y.code, .int .i64 Y.ca, .int .i64 Y.ri, .slice ya0 e0 yk0, .int .i64 Y.H.pc, .slice ya1 e1 yk1, .bool Y.H.halted, .bool Y.H.waiting, .bool Y.H.rung, .int .i64 Y.H.done, .slice ya2 e2 yk2, .slice ya3 e3 yk3, .slice ya4 e4 yk4] 57) := Vb.new _ _ _
  have T3 : Hid (Tm (w2.alloc (.cells #[.int .i64 Y.code, .int .i64 Y.ca, .int .i64 Y.ri, .slice ya0 e0 yk0, .int .i64 Y.H.pc, .slice ya1 e1 yk1, .bool Y.H.halted, .bool Y.H.waiting, .bool Y.H.rung, .int .i64 Y.H.done, .slice ya2 e2 yk2, .slice ya3 e3 yk3, .slice ya4 e4 yk4] 57)) w1.heap.size (.slice ya0 e0 yk0) (.slice ya1 e1 yk1) (.slice ya2 e2 yk2) (.slice ya3 e3 yk3) (.slice ya4 e4 yk4) Y.H Y.zs) := T2.out.keep (al (Below.refl _ _) _)
  have P3 : Hid (Prs 61 (w2.alloc (.cells #[.int .i64 Y.code, .int .i64 Y.ca, .int .i64 Y.ri, .slice ya0 e0 yk0, .int .i64 Y.H.pc, .slice ya1 e1 yk1, .bool Y.H.halted, .bool Y.H.waiting, .bool Y.H.rung, .int .i64 Y.H.done, .slice ya2 e2 yk2, .slice ya3 e3 yk3, .slice ya4 e4 yk4] 57)) b (.slice a4 n4 k4) ps) := HS.out.pl.keep B3.out
  have Z3 : Hid (w2.heap.size + 1 = (w2.alloc (.cells #[.int .i64 Y.code, .int .i64 Y.ca, .int .i64 Y.ri, .slice ya0 e0 yk0, .int .i64 Y.H.pc, .slice ya1 e1 yk1, .bool Y.H.halted, .bool Y.H.waiting, .bool Y.H.rung, .int .i64 Y.H.done, .slice ya2 e2 yk2, .slice ya3 e3 yk3, .slice ya4 e4 yk4] 57)).heap.size) := by show _ = _; simp
  clear T2 B2 Q2 R2
  go_upto_region 5 with fail
  generalize (w2.alloc (.cells #[.int .i64 Y.code, .int .i64 Y.ca, .int .i64 Y.ri, .slice ya0 e0 yk0, .int .i64 Y.H.pc, .slice ya1 e1 yk1, .bool Y.H.halted, .bool Y.H.waiting, .bool Y.H.rung, .int .i64 Y.H.done, .slice ya2 e2 yk2, .slice ya3 e3 yk3, .slice ya4 e4 yk4] 57)) = W2 at *
  generalize w2.heap.size = s2 at *
  have y0 := Y3.out.cell 0 rfl
  go_upto_region 7 with fail
  clear y0
  have LT : Hid (s + 1 < W2.heap.size) := R3.out.lt
  have QS : Hid (∀ w', Sj12 W2 (s + 1) w' → Vb w' s #[.slice a0 n0 k0, .int .i64 H.pc, .slice a1 n1 k1, .bool H.halted, .bool H.waiting, .bool H.rung, .int .i64 H.done, .slice a2 n2 k2, .slice a3 n3 k3, .slice a4 n4 k4, .slice a5 n5 k5] 32 ∧ Vb w' s2 #[.int .i64 Y.code, .int .i64 Y.ca, .int .i64 Y.ri, .slice ya0 e0 yk0, .int .i64 Y.H.pc, .slice ya1 e1 yk1, .bool Y.H.halted, .bool Y.H.waiting, .bool Y.H.rung, .int .i64 Y.H.done, .slice ya2 e2 yk2, .slice ya3 e3 yk3, .slice ya4 e4 yk4] 57) := fun w' hs => ⟨hs.1.vb Q3.out (by omega), hs.1.vb Y3.out (by have := Z2.out; omega)⟩
  have S_ : Hid (Sj12 W2 (s + 1) W2) := ⟨Mq.refl _ _, R3.out.there 12 (by decide)⟩
  have S0 : Hid (Sj12 W2 (s + 1) W2.drew) := S_.out.step LT.out (Below.refl _ _).drew
  have P4 : Hid (Prs 61 W2.drew b (.slice a4 n4 k4) ps) := P3.out.keep (Below.refl _ _).drew
  refine wp_region_held (S := fun w' => Sj12 W2 (s + 1) w') (by kernel_rfl) ?_
  change wpAnyH _ _ _ _ _ _ _ _ (World.drew _)
  generalize W2.drew = x0 at *
  refine tk (i := 0) (v := .pointer (some ⟨s2, 3, none⟩)) rfl (Or.inl ⟨by rfl, fun w' hs => by go_simp⟩) S0.out ?_
  change wpAnyH _ _ _ _ _ _ _ (Act.put _ (some 27) _) _
  simp only [Act.put, List.setIfInBounds_toArray, List.set_cons_zero, List.set_cons_succ]
  refine tk (i := 1) (v := .agg #[.slice ya0 e0 yk0, .int .i64 Y.H.pc, .slice ya1 e1 yk1, .bool Y.H.halted, .bool Y.H.waiting, .bool Y.H.rung, .int .i64 Y.H.done, .slice ya2 e2 yk2, .slice ya3 e3 yk3]) rfl (Or.inl ⟨by rfl, fun w' hs => by have hq := (QS.out w' hs).2; have z3 := hq.cell 3 rfl; have z4 := hq.cell 4 rfl; have z5 := hq.cell 5 rfl; have z6 := hq.cell 6 rfl; have z7 := hq.cell 7 rfl; have z8 := hq.cell 8 rfl; have z9 := hq.cell 9 rfl; have z10 := hq.cell 10 rfl; have z11 := hq.cell 11 rfl; go_simp⟩) S0.out ?_
  change wpAnyH _ _ _ _ _ _ _ (Act.put _ (some 28) _) _
  simp only [Act.put, List.setIfInBounds_toArray, List.set_cons_zero, List.set_cons_succ]
  refine tk (i := 2) (v := .pointer (some ⟨s, 9, none⟩)) rfl (Or.inl ⟨by rfl, fun w' hs => by go_simp⟩) S0.out ?_
  change wpAnyH _ _ _ _ _ _ _ (Act.put _ (some 29) _) _
  simp only [Act.put, List.setIfInBounds_toArray, List.set_cons_zero, List.set_cons_succ]
  refine tk (i := 3) (v := .slice a4 n4 k4) rfl (Or.inl ⟨by rfl, fun w' hs => by have hq := (QS.out w' hs).1; have z9 := hq.cell 9 rfl; go_simp⟩) S0.out ?_
  change wpAnyH _ _ _ _ _ _ _ (Act.put _ (some 30) _) _
  simp only [Act.put, List.setIfInBounds_toArray, List.set_cons_zero, List.set_cons_succ]
  refine tk (i := 5) (v := .pointer (some ⟨s2, 12, none⟩)) rfl (Or.inl ⟨by rfl, fun w' hs => by go_simp⟩) S0.out ?_
  change wpAnyH _ _ _ _ _ _ _ (Act.put _ (some 32) _) _
  simp only [Act.put, List.setIfInBounds_toArray, List.set_cons_zero, List.set_cons_succ]
  refine tk (i := 6) (v := .slice ya4 e4 yk4) rfl (Or.inl ⟨by rfl, fun w' hs => by have hq := (QS.out w' hs).2; have z12 := hq.cell 12 rfl; go_simp⟩) S0.out ?_
  change wpAnyH _ _ _ _ _ _ _ (Act.put _ (some 33) _) _
  simp only [Act.put, List.setIfInBounds_toArray, List.set_cons_zero, List.set_cons_succ]
  refine wpAnyH_ready (rs := [4]) (by kernel_rfl) (by simp) ?_
  refine AllReadyH.cons rfl (fun K hK => ?_) AllReadyH.nil
  rw [if_pos (by rfl)]
  go_simp
  refine (i_cloneP _ ps b _ P4.out (by have := HL.out.1; omega)).mono ?_
  rintro e w3 ⟨u, rfl, c3, b3⟩
  obtain ⟨ua, uk, eu, _⟩ := c3.shape
  subst eu
  obtain ⟨np, hnp⟩ : ∃ np, ps.length = np := ⟨_, rfl⟩
  rw [hnp] at c3 ⊢
  have C3 : Hid (Prs 61 w3 W2.heap.size (.slice ua np uk) ps) := c3.mono S0.out.1.size
  have S3 : Hid (Sj12 W2 (s + 1) w3) := S0.out.step LT.out b3
  clear c3 b3 hnp
  refine hK.out _ _ S3.out (fun _ => ?_)
  clear hK K
  refine tk (i := 7) (v := .agg #[.slice ya0 e0 yk0, .int .i64 Y.H.pc, .slice ya1 e1 yk1, .bool Y.H.halted, .bool Y.H.waiting, .bool Y.H.rung, .int .i64 Y.H.done, .slice ya2 e2 yk2, .slice ya3 e3 yk3, .slice ua np uk, .slice ya4 e4 yk4]) rfl (Or.inl ⟨by rfl, fun w' hs => by go_simp⟩) S3.out ?_
  change wpAnyH _ _ _ _ _ _ _ (Act.put _ (some 34) _) _
  simp only [Act.put, List.setIfInBounds_toArray, List.set_cons_zero, List.set_cons_succ]
  refine tk (i := 8) (v := .agg #[.int .i64 0, .slice ya0 e0 yk0, .int .i64 Y.H.pc, .slice ya1 e1 yk1, .bool Y.H.halted, .bool Y.H.waiting, .bool Y.H.rung, .int .i64 Y.H.done, .slice ya2 e2 yk2, .slice ya3 e3 yk3, .slice ua np uk, .slice ya4 e4 yk4]) rfl (Or.inl ⟨by rfl, fun w' hs => by go_simp⟩) S3.out ?_
  change wpAnyH _ _ _ _ _ _ _ (Act.put _ (some 35) _) _
  simp only [Act.put, List.setIfInBounds_toArray, List.set_cons_zero, List.set_cons_succ]
  refine wpAnyH_ready (rs := [9]) (by kernel_rfl) (by simp) ?_
  refine AllReadyH.cons rfl (fun K hK => ?_) AllReadyH.nil
  rw [if_pos (by rfl)]
  refine wp_store_mid 34 (.tmp 4) (.tmp 35) rfl (s + 1) 0 #[.int .i64 0, .slice ya0 e0 yk0, .int .i64 Y.H.pc, .slice ya1 e1 yk1, .bool Y.H.halted, .bool Y.H.waiting, .bool Y.H.rung, .int .i64 Y.H.done, .slice ya2 e2 yk2, .slice ya3 e3 yk3, .slice ua np uk, .slice ya4 e4 yk4] rfl rfl S3.out.2 (by kernel_rfl) (by simp [Value.oneCell']) ?_
  change K (Act.put _ none undef) (World.setCells w3 (s + 1) 0 [.int .i64 0, .slice ya0 e0 yk0, .int .i64 Y.H.pc, .slice ya1 e1 yk1, .bool Y.H.halted, .bool Y.H.waiting, .bool Y.H.rung, .int .i64 Y.H.done, .slice ya2 e2 yk2, .slice ya3 e3 yk3, .slice ua np uk, .slice ya4 e4 yk4])
  simp only [Act.put]
  have S4 : Hid (Sj12 W2 (s + 1) (w3.setCells (s + 1) 0 [.int .i64 0, .slice ya0 e0 yk0, .int .i64 Y.H.pc, .slice ya1 e1 yk1, .bool Y.H.halted, .bool Y.H.waiting, .bool Y.H.rung, .int .i64 Y.H.done, .slice ya2 e2 yk2, .slice ya3 e3 yk3, .slice ua np uk, .slice ya4 e4 yk4])) := S3.out.set _
  have R4 : Hid ((w3.setCells (s + 1) 0 [.int .i64 0, .slice ya0 e0 yk0, .int .i64 Y.H.pc, .slice ya1 e1 yk1, .bool Y.H.halted, .bool Y.H.waiting, .bool Y.H.rung, .int .i64 Y.H.done, .slice ya2 e2 yk2, .slice ya3 e3 yk3, .slice ua np uk, .slice ya4 e4 yk4]).rangeAt (s + 1) 0 [.int .i64 0, .slice ya0 e0 yk0, .int .i64 Y.H.pc, .slice ya1 e1 yk1, .bool Y.H.halted, .bool Y.H.waiting, .bool Y.H.rung, .int .i64 Y.H.done, .slice ya2 e2 yk2, .slice ya3 e3 yk3, .slice ua np uk, .slice ya4 e4 yk4]) := World.rangeAt_setCells_same _ _ _ _ S3.out.2
  have C4 : Hid (Prs 61 (w3.setCells (s + 1) 0 [.int .i64 0, .slice ya0 e0 yk0, .int .i64 Y.H.pc, .slice ya1 e1 yk1, .bool Y.H.halted, .bool Y.H.waiting, .bool Y.H.rung, .int .i64 Y.H.done, .slice ya2 e2 yk2, .slice ya3 e3 yk3, .slice ua np uk, .slice ya4 e4 yk4]) W2.heap.size (.slice ua np uk) ps) := (mq_cells (s + 1) _ w3 0).prs C3.out fun k e f => by have := (C3.out.lt k e).1; have := LT.out; omega
  generalize w3.setCells (s + 1) 0 [.int .i64 0, .slice ya0 e0 yk0, .int .i64 Y.H.pc, .slice ya1 e1 yk1, .bool Y.H.halted, .bool Y.H.waiting, .bool Y.H.rung, .int .i64 Y.H.done, .slice ya2 e2 yk2, .slice ya3 e3 yk3, .slice ua np uk, .slice ya4 e4 yk4] = w4 at *
  refine hK.out _ _ S4.out (fun _ => ?_)
  clear hK K
  refine wpAnyH_done (by kernel_rfl) ?_ _
  have B4 : Below w.heap.size w w4 := Mq.under B3.out S4.out.1 fun k e => by have := HSs.out; omega
  have T4 : Tm w4 w1.heap.size (.slice ya0 e0 yk0) (.slice ya1 e1 yk1) (.slice ya2 e2 yk2) (.slice ya3 e3 yk3) (.slice ya4 e4 yk4) Y.H Y.zs := T3.out.mq S4.out.1 fun k e f => by have := (T3.out.own k e).1; have := Z2.out; omega
  have LD := run_loadVar_mid (P := Tryz.prog) w4 (s + 1) 0 34 [.int .i64 0, .slice ya0 e0 yk0, .int .i64 Y.H.pc, .slice ya1 e1 yk1, .bool Y.H.halted, .bool Y.H.waiting, .bool Y.H.rung, .int .i64 Y.H.done, .slice ya2 e2 yk2, .slice ya3 e3 yk3, .slice ua np uk, .slice ya4 e4 yk4] _ R4.out Tryz.underlying34 rfl (by kernel_rfl)
  have E1 : w.heap.size ≤ w1.heap.size := B1.out.size
  have E2 : w.heap.size ≤ W2.heap.size := B3.out.size
  go_wp2_with fail
  exact bodyPost_ret (v := .agg #[.int .i64 0, .slice ya0 e0 yk0, .int .i64 Y.H.pc, .slice ya1 e1 yk1, .bool Y.H.halted, .bool Y.H.waiting, .bool Y.H.rung, .int .i64 Y.H.done, .slice ya2 e2 yk2, .slice ya3 e3 yk3, .slice ua np uk, .slice ya4 e4 yk4]) (by simp [results, Tryz.results7, asAddr]; rw [LD]) rfl
    ⟨_, _, _, _, _, _, rfl, ⟨T4.h.mono E1, T4.a, C4.out.mono E2, T4.mm.mono E1, T4.rm, T4.cm, T4.im, T4.om⟩, B4⟩
theorem i_runSolo (r c i o l m : Value) (H : Ht) (ps : List (Int × Int)) (zs : List Int) (n : Int) (b : Nat) (w : World) (h : Sm w b r c i o l m H ps zs) (hl : ps.length ≤ 1048576) (hz : zs.length ≤ 1048576) (tab : Tab w) (tb : 0 < w.heap.size) :
    Calls Tryz.prog 7 #[.agg #[r, .int .i64 H.pc, c, .bool H.halted, .bool H.waiting, .bool H.rung, .int .i64 H.done, i, o, l, m], .int .i64 n] w fun e w' => ∃ r' c' i' o' l' m', e = .returned (.agg #[.int .i64 (rsC H ps zs n), r', .int .i64 (rsH H ps zs n).pc, c', .bool (rsH H ps zs n).halted, .bool (rsH H ps zs n).waiting, .bool (rsH H ps zs n).rung, .int .i64 (rsH H ps zs n).done, i', o', l', m']) ∧ Sm w' w.heap.size r' c' i' o' l' m' (rsH H ps zs n) (rsP H ps zs n) (rsZ H ps zs n) ∧ Below w.heap.size w w' := by
  by_cases hx : sfV H ps zs = 0
  · by_cases hc : (smV H ps zs n).code = 0
    · exact ir_good r c i o l m H ps zs n b w h hl hz tab tb hx hc
    · exact ir_code r c i o l m H ps zs n b w h hl hz tab tb hx hc
  · exact ir_bad r c i o l m H ps zs n b w h hl hz tab tb hx
end Go.Proofs.YtimcoobhakfnaaaGreatDoor
namespace Go.Proofs.YtimcoobhakfnaaaGreatDoor
open Go.RowKit
set_option linter.unusedVariables false

theorem solo_seen {H : Ht} {ps : List (Int × Int)} {zs : List Int} (h : sfV H ps zs = 0) : seenC H ps zs = 0 ∧ Sn H ps zs 8 ∧ ps.length = 8 ∧ zs.length = 64 := by
  have h0 := h
  unfold sfV at h0
  split at h0
  · rename_i h1
    split at h0
    · rename_i h2
      split at h0
      · rename_i h3
        obtain ⟨_, _, hl, ho⟩ := pgsV_zero h2
        unfold wholeS at h3
        simp at h3
        have h24 : pgsV ps 24 = 0 := by
          rw [pgsV, if_pos (by omega), if_pos hl]
          exact firstC_ok (by rw [hl]; exact okTo_up ho)
        have hb : beyB ps zs.length = false := by
          unfold beyB
          rw [List.any_eq_false]
          intro p hp
          obtain ⟨j, hj, e⟩ := List.mem_iff_getElem.1 hp
          have k := pgC_zero (ho j (by omega))
          rw [List.getD, List.getElem?_eq_getElem hj] at k
          simp at k
          rw [e] at k
          rw [h3.1]
          simp
          omega
        have hc : seenC H ps zs = 0 := by
          rw [seenC, if_pos h1, if_pos h24, if_pos h3.2, if_neg (by rw [hb]; simp)]
        obtain ⟨p, sp⟩ := seen_ok hc
        have e : p = 8 := by have := sp.zl; omega
        subst e
        exact ⟨hc, sp, hl, h3.1⟩
      · cases h0
    · rename_i h2; exact absurd h0 h2
  · rename_i h1; exact absurd h0 h1
/-- A lonely machine that is read alone, its lists' blocks bounded. -/
structure Sp (w : World) (base : Nat) (r c i o l m : Value) (H : Ht) (ps : List (Int × Int)) (zs : List Int) : Prop where
  q : Sq w base r c i o l m H ps zs
  lt : ∀ k, OwnS r c i o l m k → k < w.heap.size
theorem Sp.keep {w w' : World} {base : Nat} {r c i o l m : Value} {H : Ht} {ps : List (Int × Int)} {zs : List Int} (s : Sp w base r c i o l m H ps zs) (b : Below w.heap.size w w') : Sp w' base r c i o l m H ps zs :=
  ⟨s.q.keep b, fun k e => Nat.lt_of_lt_of_le (s.lt k e) b.size⟩
theorem Sp.mq {S : Nat → Prop} {w w' : World} {base : Nat} {r c i o l m : Value} {H : Ht} {ps : List (Int × Int)} {zs : List Int} (s : Sp w base r c i o l m H ps zs) (g : Mq S w w') (hn : ∀ k, OwnS r c i o l m k → ¬ S k) : Sp w' base r c i o l m H ps zs :=
  ⟨⟨s.q.h.mq g fun k e _ => hn k (.inl e), s.q.pl.low' g fun k e => hn k (.inr (.inl e)), s.q.mm.mq g fun k e _ => hn k (.inr (.inr e))⟩, fun k e => Nat.lt_of_lt_of_le (s.lt k e) g.size⟩
theorem sm_mq {S : Nat → Prop} {w w' : World} {base : Nat} {r c i o l m : Value} {H : Ht} {ps : List (Int × Int)} {zs : List Int} (s : Sm w base r c i o l m H ps zs) (g : Mq S w w') (hn : ∀ k, OwnS r c i o l m k → ¬ S k) : Sm w' base r c i o l m H ps zs :=
  ⟨g.hm s.h fun k e => hn k (.inl e), s.a, s.pl.low' g fun k e => hn k (.inr (.inl e)), g.nums s.mm fun k e => hn k (.inr (.inr e)), s.rm, s.cm, s.im, s.om⟩
theorem own_nil (k : Nat) (e : OwnS (.slice none 0 0) (.slice none 0 0) (.slice none 0 0) (.slice none 0 0) (.slice none 0 0) (.slice none 0 0) k) : False := by
  rcases e with (e | e | e | e) | e | e <;> cases e
theorem sq_void (w : World) (base : Nat) : Sp w base (.slice none 0 0) (.slice none 0 0) (.slice none 0 0) (.slice none 0 0) (.slice none 0 0) (.slice none 0 0) voidH [] [] := ⟨(sm_void w base).sr, fun k e => (own_nil k e).elim⟩
theorem rs_small (H : Ht) (ps : List (Int × Int)) (zs : List Int) (n : Int) : totS (rsH H ps zs n) (rsP H ps zs n) (rsZ H ps zs n) ≤ 2000 := by
  by_cases h : rsC H ps zs n = 0
  · rw [rsH, rsP, rsZ, if_pos h, if_pos h, if_pos h]
    have h1 := smV_small H ps zs n
    have hx : sfV H ps zs = 0 := by
      unfold rsC at h
      split at h
      · assumption
      · rename_i k; exact absurd h k
    have h2 := (solo_seen hx).2.2.1
    unfold totS
    omega
  · obtain ⟨h1, h2, h3⟩ := rs_not H ps zs n h
    rw [h1, h2, h3]
    decide
set_option maxRecDepth 20000 in
set_option maxHeartbeats 8000000 in
theorem sr_bad (r c i o l m : Value) (H : Ht) (ps : List (Int × Int)) (zs : List Int) (n : Int) (b : Nat) (w : World) (h : Sm w b r c i o l m H ps zs) (hl : ps.length ≤ 1048576) (hz : zs.length ≤ 1048576) (hx : sfV H ps zs ≠ 0) :
    Calls Tryz.prog 5 #[.agg #[r, .int .i64 H.pc, c, .bool H.halted, .bool H.waiting, .bool H.rung, .int .i64 H.done, i, o, l, m], .int .i64 n] w fun e w' => ∃ r' c' i' o' l' m', e = .returned (.agg #[.int .i64 (rsC H ps zs n), r', .int .i64 (rsH H ps zs n).pc, c', .bool (rsH H ps zs n).halted, .bool (rsH H ps zs n).waiting, .bool (rsH H ps zs n).rung, .int .i64 (rsH H ps zs n).done, i', o', l', m']) ∧ Sp w' w.heap.size r' c' i' o' l' m' (rsH H ps zs n) (rsP H ps zs n) (rsZ H ps zs n) ∧ Below w.heap.size w w' := by
  have hv : rsC H ps zs n = sfV H ps zs := by rw [rsC, if_neg hx]
  have hu := rs_not H ps zs n (by rw [hv]; exact hx)
  rw [hu.1, hu.2.1, hu.2.2, hv]
  clear hu hv
  obtain ⟨x, hX⟩ : ∃ x, sfV H ps zs = x := ⟨_, rfl⟩
  have HX : Hid (sfV H ps zs = x) := hX
  rw [hX] at hx ⊢
  have hx0 : (x != 0) = true := by simp [hx]
  clear hX hx
  obtain ⟨a0, k0, e0, _⟩ := h.h.r.shape
  obtain ⟨a1, k1, e1, _⟩ := h.h.c.shape
  obtain ⟨a2, k2, e2, _⟩ := h.h.i.shape
  obtain ⟨a3, k3, e3, _⟩ := h.h.o.shape
  obtain ⟨a4, k4, e4, _⟩ := h.pl.shape
  obtain ⟨a5, k5, e5, _⟩ := h.mm.shape
  subst e0 e1 e2 e3 e4 e5
  generalize hn0 : H.regs.length = n0 at *
  generalize hn1 : H.csr.length = n1 at *
  generalize hn2 : H.inn.length = n2 at *
  generalize hn3 : H.out.length = n3 at *
  obtain ⟨n4, hn4⟩ : ∃ n, ps.length = n := ⟨_, rfl⟩
  rw [hn4] at h ⊢
  obtain ⟨n5, hn5⟩ : ∃ n, zs.length = n := ⟨_, rfl⟩
  rw [hn5] at h ⊢
  have HS : Hid (Sm w b (.slice a0 n0 k0) (.slice a1 n1 k1) (.slice a2 n2 k2) (.slice a3 n3 k3) (.slice a4 n4 k4) (.slice a5 n5 k5) H ps zs) := h
  have HL : Hid (ps.length ≤ 1048576 ∧ zs.length ≤ 1048576) := ⟨hl, hz⟩
  clear h hl hz hn0 hn1 hn2 hn3 hn4 hn5
  generalize hW : (w.alloc (.cells #[.slice a0 n0 k0, .int .i64 H.pc, .slice a1 n1 k1, .bool H.halted, .bool H.waiting, .bool H.rung, .int .i64 H.done, .slice a2 n2 k2, .slice a3 n3 k3, .slice a4 n4 k4, .slice a5 n5 k5] 32)).alloc (.cells #[.int .i64 0, .slice none 0 0, .int .i64 0, .slice none 0 0, .bool false, .bool false, .bool false, .int .i64 0, .slice none 0 0, .slice none 0 0, .slice none 0 0, .slice none 0 0] 34) = W
  have B0 : Hid (Below w.heap.size w W) := by show Below _ _ _; rw [← hW]; exact al (al (Below.refl _ _) _) _
  obtain ⟨s, hS⟩ : ∃ s, w.heap.size = s := ⟨_, rfl⟩
  have HSs : Hid (w.heap.size = s) := hS
  have Q : Hid (Vb W s #[.slice a0 n0 k0, .int .i64 H.pc, .slice a1 n1 k1, .bool H.halted, .bool H.waiting, .bool H.rung, .int .i64 H.done, .slice a2 n2 k2, .slice a3 n3 k3, .slice a4 n4 k4, .slice a5 n5 k5] 32) := by show Vb _ _ _ _; rw [← hW, ← hS]; exact (Vb.new _ _ _).push _
  have R : Hid (Vb W (s + 1) #[.int .i64 0, .slice none 0 0, .int .i64 0, .slice none 0 0, .bool false, .bool false, .bool false, .int .i64 0, .slice none 0 0, .slice none 0 0, .slice none 0 0, .slice none 0 0] 34) := by
    have z1 : s + 1 = (w.alloc (.cells #[.slice a0 n0 k0, .int .i64 H.pc, .slice a1 n1 k1, .bool H.halted, .bool H.waiting, .bool H.rung, .int .i64 H.done, .slice a2 n2 k2, .slice a3 n3 k3, .slice a4 n4 k4, .slice a5 n5 k5] 32)).heap.size := by rw [← hS]; simp
    show Vb _ _ _ _; rw [← hW, z1]; exact Vb.new _ _ _
  have q0 := Q.out.cell 0 rfl
  have q1 := Q.out.cell 1 rfl
  have q2 := Q.out.cell 2 rfl
  have q3 := Q.out.cell 3 rfl
  have q4 := Q.out.cell 4 rfl
  have q5 := Q.out.cell 5 rfl
  have q6 := Q.out.cell 6 rfl
  have q7 := Q.out.cell 7 rfl
  have q8 := Q.out.cell 8 rfl
  have q9 := Q.out.cell 9 rfl
  have q10 := Q.out.cell 10 rfl
  go_enter Tryz.func5, Tryz.ntmps5
  go_wp2_with fail
  clear hW hS q0 q1 q2 q3 q4 q5 q6 q7 q8 q9 q10
  refine (s_soloFault _ _ _ _ _ _ H ps zs _ _ (HS.out.keep B0.out) HL.out.1).mono ?_
  rw [HX.out]
  rintro e w1 ⟨rfl, b1⟩
  have B1 : Hid (Below w.heap.size w w1) := on B0.out b1
  have R1 : Hid (Vb w1 (s + 1) #[.int .i64 0, .slice none 0 0, .int .i64 0, .slice none 0 0, .bool false, .bool false, .bool false, .int .i64 0, .slice none 0 0, .slice none 0 0, .slice none 0 0, .slice none 0 0] 34) := R.out.keep b1
  have Q1 : Hid (Vb w1 s #[.slice a0 n0 k0, .int .i64 H.pc, .slice a1 n1 k1, .bool H.halted, .bool H.waiting, .bool H.rung, .int .i64 H.done, .slice a2 n2 k2, .slice a3 n3 k3, .slice a4 n4 k4, .slice a5 n5 k5] 32) := Q.out.keep b1
  clear b1
  have p0 := R1.out.cell 0 rfl
  have p1 := R1.out.cell 1 rfl
  have p2 := R1.out.cell 2 rfl
  have p3 := R1.out.cell 3 rfl
  have p4 := R1.out.cell 4 rfl
  have p5 := R1.out.cell 5 rfl
  have p6 := R1.out.cell 6 rfl
  have p7 := R1.out.cell 7 rfl
  have p8 := R1.out.cell 8 rfl
  have p9 := R1.out.cell 9 rfl
  have p10 := R1.out.cell 10 rfl
  have p11 := R1.out.cell 11 rfl
  have f0 := R1.out.free 0
  have f1 := R1.out.free 1
  have f2 := R1.out.free 2
  have f3 := R1.out.free 3
  have f4 := R1.out.free 4
  have f5 := R1.out.free 5
  have f6 := R1.out.free 6
  have f7 := R1.out.free 7
  have f8 := R1.out.free 8
  have f9 := R1.out.free 9
  have f10 := R1.out.free 10
  have f11 := R1.out.free 11
  have lt := R1.out.lt
  go_wp2_with fail
  clear p0 f0 p1 f1 p2 f2 p3 f3 p4 f4 p5 f5 p6 f6 p7 f7 p8 f8 p9 f9 p10 f10 p11 f11 lt
  have NN : Hid (_ ∧ _) := twelveX R1.out (.int .i64 x) (.slice none 0 0) (.int .i64 0) (.slice none 0 0) (.bool false) (.bool false) (.bool false) (.int .i64 0) (.slice none 0 0) (.slice none 0 0) (.slice none 0 0) (.slice none 0 0)
  generalize ((((((((((((w1.setCell ⟨s + 1, 0, none⟩ (.int .i64 x)).setCell ⟨s + 1, 1, none⟩ (.slice none 0 0)).setCell ⟨s + 1, 2, none⟩ (.int .i64 0)).setCell ⟨s + 1, 3, none⟩ (.slice none 0 0)).setCell ⟨s + 1, 4, none⟩ (.bool false)).setCell ⟨s + 1, 5, none⟩ (.bool false)).setCell ⟨s + 1, 6, none⟩ (.bool false)).setCell ⟨s + 1, 7, none⟩ (.int .i64 0)).setCell ⟨s + 1, 8, none⟩ (.slice none 0 0)).setCell ⟨s + 1, 9, none⟩ (.slice none 0 0)).setCell ⟨s + 1, 10, none⟩ (.slice none 0 0)).setCell ⟨s + 1, 11, none⟩ (.slice none 0 0)) = W9 at *
  have x0 := NN.out.1.cell 0 rfl
  have x1 := NN.out.1.cell 1 rfl
  have x2 := NN.out.1.cell 2 rfl
  have x3 := NN.out.1.cell 3 rfl
  have x4 := NN.out.1.cell 4 rfl
  have x5 := NN.out.1.cell 5 rfl
  have x6 := NN.out.1.cell 6 rfl
  have x7 := NN.out.1.cell 7 rfl
  have x8 := NN.out.1.cell 8 rfl
  have x9 := NN.out.1.cell 9 rfl
  have x10 := NN.out.1.cell 10 rfl
  have x11 := NN.out.1.cell 11 rfl
  exact bodyPost_ret (v := .agg #[.int .i64 x, .slice none 0 0, .int .i64 0, .slice none 0 0, .bool false, .bool false, .bool false, .int .i64 0, .slice none 0 0, .slice none 0 0, .slice none 0 0, .slice none 0 0]) (by simp [results, Tryz.results5, go_sem, x0, x1, x2, x3, x4, x5, x6, x7, x8, x9, x10, x11]) rfl
    ⟨_, _, _, _, _, _, rfl, sq_void _ _, Mq.under B1.out NN.out.2 fun k e => by have := HSs.out; omega⟩
set_option maxRecDepth 20000 in
set_option maxHeartbeats 8000000 in
theorem sr_range (r c i o l m : Value) (H : Ht) (ps : List (Int × Int)) (zs : List Int) (n : Int) (b : Nat) (w : World) (h : Sm w b r c i o l m H ps zs) (hl : ps.length ≤ 1048576) (hz : zs.length ≤ 1048576) (hx : sfV H ps zs = 0) (hn : ¬ (0 ≤ n ∧ n ≤ 500)) :
    Calls Tryz.prog 5 #[.agg #[r, .int .i64 H.pc, c, .bool H.halted, .bool H.waiting, .bool H.rung, .int .i64 H.done, i, o, l, m], .int .i64 n] w fun e w' => ∃ r' c' i' o' l' m', e = .returned (.agg #[.int .i64 (rsC H ps zs n), r', .int .i64 (rsH H ps zs n).pc, c', .bool (rsH H ps zs n).halted, .bool (rsH H ps zs n).waiting, .bool (rsH H ps zs n).rung, .int .i64 (rsH H ps zs n).done, i', o', l', m']) ∧ Sp w' w.heap.size r' c' i' o' l' m' (rsH H ps zs n) (rsP H ps zs n) (rsZ H ps zs n) ∧ Below w.heap.size w w' := by
  have hc : (smV H ps zs n).code = 3 := by rw [smV, if_pos (solo_seen hx).1, if_neg hn]
  have hv : rsC H ps zs n = 3 := by rw [rsC, if_pos hx, hc]
  have hu := rs_not H ps zs n (by rw [hv]; decide)
  rw [hu.1, hu.2.1, hu.2.2, hv]
  clear hu hv hc
  have HX : Hid (sfV H ps zs = 0) := hx
  have IN : Hid ((decide (0 ≤ n) && decide (n ≤ 500)) = false) := by
    show _ = _
    rw [Bool.eq_false_iff]
    intro k
    simp at k
    exact hn k
  clear hx hn
  obtain ⟨a0, k0, e0, _⟩ := h.h.r.shape
  obtain ⟨a1, k1, e1, _⟩ := h.h.c.shape
  obtain ⟨a2, k2, e2, _⟩ := h.h.i.shape
  obtain ⟨a3, k3, e3, _⟩ := h.h.o.shape
  obtain ⟨a4, k4, e4, _⟩ := h.pl.shape
  obtain ⟨a5, k5, e5, _⟩ := h.mm.shape
  subst e0 e1 e2 e3 e4 e5
  generalize hn0 : H.regs.length = n0 at *
  generalize hn1 : H.csr.length = n1 at *
  generalize hn2 : H.inn.length = n2 at *
  generalize hn3 : H.out.length = n3 at *
  obtain ⟨n4, hn4⟩ : ∃ n, ps.length = n := ⟨_, rfl⟩
  rw [hn4] at h ⊢
  obtain ⟨n5, hn5⟩ : ∃ n, zs.length = n := ⟨_, rfl⟩
  rw [hn5] at h ⊢
  have HS : Hid (Sm w b (.slice a0 n0 k0) (.slice a1 n1 k1) (.slice a2 n2 k2) (.slice a3 n3 k3) (.slice a4 n4 k4) (.slice a5 n5 k5) H ps zs) := h
  have HL : Hid (ps.length ≤ 1048576 ∧ zs.length ≤ 1048576) := ⟨hl, hz⟩
  clear h hl hz hn0 hn1 hn2 hn3 hn4 hn5
  generalize hW : (w.alloc (.cells #[.slice a0 n0 k0, .int .i64 H.pc, .slice a1 n1 k1, .bool H.halted, .bool H.waiting, .bool H.rung, .int .i64 H.done, .slice a2 n2 k2, .slice a3 n3 k3, .slice a4 n4 k4, .slice a5 n5 k5] 32)).alloc (.cells #[.int .i64 0, .slice none 0 0, .int .i64 0, .slice none 0 0, .bool false, .bool false, .bool false, .int .i64 0, .slice none 0 0, .slice none 0 0, .slice none 0 0, .slice none 0 0] 34) = W
  have B0 : Hid (Below w.heap.size w W) := by show Below _ _ _; rw [← hW]; exact al (al (Below.refl _ _) _) _
  obtain ⟨s, hS⟩ : ∃ s, w.heap.size = s := ⟨_, rfl⟩
  have HSs : Hid (w.heap.size = s) := hS
  have Q : Hid (Vb W s #[.slice a0 n0 k0, .int .i64 H.pc, .slice a1 n1 k1, .bool H.halted, .bool H.waiting, .bool H.rung, .int .i64 H.done, .slice a2 n2 k2, .slice a3 n3 k3, .slice a4 n4 k4, .slice a5 n5 k5] 32) := by show Vb _ _ _ _; rw [← hW, ← hS]; exact (Vb.new _ _ _).push _
  have R : Hid (Vb W (s + 1) #[.int .i64 0, .slice none 0 0, .int .i64 0, .slice none 0 0, .bool false, .bool false, .bool false, .int .i64 0, .slice none 0 0, .slice none 0 0, .slice none 0 0, .slice none 0 0] 34) := by
    have z1 : s + 1 = (w.alloc (.cells #[.slice a0 n0 k0, .int .i64 H.pc, .slice a1 n1 k1, .bool H.halted, .bool H.waiting, .bool H.rung, .int .i64 H.done, .slice a2 n2 k2, .slice a3 n3 k3, .slice a4 n4 k4, .slice a5 n5 k5] 32)).heap.size := by rw [← hS]; simp
    show Vb _ _ _ _; rw [← hW, z1]; exact Vb.new _ _ _
  have q0 := Q.out.cell 0 rfl
  have q1 := Q.out.cell 1 rfl
  have q2 := Q.out.cell 2 rfl
  have q3 := Q.out.cell 3 rfl
  have q4 := Q.out.cell 4 rfl
  have q5 := Q.out.cell 5 rfl
  have q6 := Q.out.cell 6 rfl
  have q7 := Q.out.cell 7 rfl
  have q8 := Q.out.cell 8 rfl
  have q9 := Q.out.cell 9 rfl
  have q10 := Q.out.cell 10 rfl
  go_enter Tryz.func5, Tryz.ntmps5
  go_wp2_with fail
  clear hW hS q0 q1 q2 q3 q4 q5 q6 q7 q8 q9 q10
  refine (s_soloFault _ _ _ _ _ _ H ps zs _ _ (HS.out.keep B0.out) HL.out.1).mono ?_
  rw [HX.out]
  rintro e w1 ⟨rfl, b1⟩
  have B1 : Hid (Below w.heap.size w w1) := on B0.out b1
  have R1 : Hid (Vb w1 (s + 1) #[.int .i64 0, .slice none 0 0, .int .i64 0, .slice none 0 0, .bool false, .bool false, .bool false, .int .i64 0, .slice none 0 0, .slice none 0 0, .slice none 0 0, .slice none 0 0] 34) := R.out.keep b1
  have Q1 : Hid (Vb w1 s #[.slice a0 n0 k0, .int .i64 H.pc, .slice a1 n1 k1, .bool H.halted, .bool H.waiting, .bool H.rung, .int .i64 H.done, .slice a2 n2 k2, .slice a3 n3 k3, .slice a4 n4 k4, .slice a5 n5 k5] 32) := Q.out.keep b1
  clear b1
  go_upto_region 5 with (go_at_call 17; refine (spec_in _ _ _ _).mono ?_; rintro e y ⟨rfl, hy⟩; rw [hy]; clear hy y; rw [IN.out])
  have p0 := R1.out.cell 0 rfl
  have p1 := R1.out.cell 1 rfl
  have p2 := R1.out.cell 2 rfl
  have p3 := R1.out.cell 3 rfl
  have p4 := R1.out.cell 4 rfl
  have p5 := R1.out.cell 5 rfl
  have p6 := R1.out.cell 6 rfl
  have p7 := R1.out.cell 7 rfl
  have p8 := R1.out.cell 8 rfl
  have p9 := R1.out.cell 9 rfl
  have p10 := R1.out.cell 10 rfl
  have p11 := R1.out.cell 11 rfl
  have f0 := R1.out.free 0
  have f1 := R1.out.free 1
  have f2 := R1.out.free 2
  have f3 := R1.out.free 3
  have f4 := R1.out.free 4
  have f5 := R1.out.free 5
  have f6 := R1.out.free 6
  have f7 := R1.out.free 7
  have f8 := R1.out.free 8
  have f9 := R1.out.free 9
  have f10 := R1.out.free 10
  have f11 := R1.out.free 11
  have lt := R1.out.lt
  go_wp2_with fail
  clear p0 f0 p1 f1 p2 f2 p3 f3 p4 f4 p5 f5 p6 f6 p7 f7 p8 f8 p9 f9 p10 f10 p11 f11 lt
  have NN : Hid (_ ∧ _) := twelveX R1.out (.int .i64 3) (.slice none 0 0) (.int .i64 0) (.slice none 0 0) (.bool false) (.bool false) (.bool false) (.int .i64 0) (.slice none 0 0) (.slice none 0 0) (.slice none 0 0) (.slice none 0 0)
  generalize ((((((((((((w1.setCell ⟨s + 1, 0, none⟩ (.int .i64 3)).setCell ⟨s + 1, 1, none⟩ (.slice none 0 0)).setCell ⟨s + 1, 2, none⟩ (.int .i64 0)).setCell ⟨s + 1, 3, none⟩ (.slice none 0 0)).setCell ⟨s + 1, 4, none⟩ (.bool false)).setCell ⟨s + 1, 5, none⟩ (.bool false)).setCell ⟨s + 1, 6, none⟩ (.bool false)).setCell ⟨s + 1, 7, none⟩ (.int .i64 0)).setCell ⟨s + 1, 8, none⟩ (.slice none 0 0)).setCell ⟨s + 1, 9, none⟩ (.slice none 0 0)).setCell ⟨s + 1, 10, none⟩ (.slice none 0 0)).setCell ⟨s + 1, 11, none⟩ (.slice none 0 0)) = W9 at *
  have x0 := NN.out.1.cell 0 rfl
  have x1 := NN.out.1.cell 1 rfl
  have x2 := NN.out.1.cell 2 rfl
  have x3 := NN.out.1.cell 3 rfl
  have x4 := NN.out.1.cell 4 rfl
  have x5 := NN.out.1.cell 5 rfl
  have x6 := NN.out.1.cell 6 rfl
  have x7 := NN.out.1.cell 7 rfl
  have x8 := NN.out.1.cell 8 rfl
  have x9 := NN.out.1.cell 9 rfl
  have x10 := NN.out.1.cell 10 rfl
  have x11 := NN.out.1.cell 11 rfl
  exact bodyPost_ret (v := .agg #[.int .i64 3, .slice none 0 0, .int .i64 0, .slice none 0 0, .bool false, .bool false, .bool false, .int .i64 0, .slice none 0 0, .slice none 0 0, .slice none 0 0, .slice none 0 0]) (by simp [results, Tryz.results5, go_sem, x0, x1, x2, x3, x4, x5, x6, x7, x8, x9, x10, x11]) rfl
    ⟨_, _, _, _, _, _, rfl, sq_void _ _, Mq.under B1.out NN.out.2 fun k e => by have := HSs.out; omega⟩
set_option maxRecDepth 20000 in
set_option maxHeartbeats 8000000 in
theorem sr_good (r c i o l m : Value) (H : Ht) (ps : List (Int × Int)) (zs : List Int) (n : Int) (b : Nat) (w : World) (h : Sm w b r c i o l m H ps zs) (hl : ps.length ≤ 1048576) (hz : zs.length ≤ 1048576) (hx : sfV H ps zs = 0) (hn : 0 ≤ n ∧ n ≤ 500) :
    Calls Tryz.prog 5 #[.agg #[r, .int .i64 H.pc, c, .bool H.halted, .bool H.waiting, .bool H.rung, .int .i64 H.done, i, o, l, m], .int .i64 n] w fun e w' => ∃ r' c' i' o' l' m', e = .returned (.agg #[.int .i64 (rsC H ps zs n), r', .int .i64 (rsH H ps zs n).pc, c', .bool (rsH H ps zs n).halted, .bool (rsH H ps zs n).waiting, .bool (rsH H ps zs n).rung, .int .i64 (rsH H ps zs n).done, i', o', l', m']) ∧ Sp w' w.heap.size r' c' i' o' l' m' (rsH H ps zs n) (rsP H ps zs n) (rsZ H ps zs n) ∧ Below w.heap.size w w' := by
  obtain ⟨se, sn, h8, h64⟩ := solo_seen hx
  have hm : smV H ps zs n = ⟨0, (manyV ps n.toNat (H, zs, -1, -1)).2.2.1, (manyV ps n.toNat (H, zs, -1, -1)).2.2.2, (manyV ps n.toNat (H, zs, -1, -1)).1, (manyV ps n.toNat (H, zs, -1, -1)).2.1⟩ := by rw [smV, if_pos se, if_pos hn]
  obtain ⟨N, hN⟩ : ∃ N : Nat, n = (N : Int) := ⟨n.toNat, by omega⟩
  have hNt : n.toNat = N := by omega
  obtain ⟨Y, hY⟩ : ∃ Y, manyV ps N (H, zs, -1, -1) = Y := ⟨_, rfl⟩
  rw [hNt, hY] at hm
  have hv : rsC H ps zs n = 0 := by rw [rsC, if_pos hx, hm]
  have h1 : rsH H ps zs n = Y.1 := by rw [rsH, if_pos hv, hm]
  have h2 : rsP H ps zs n = ps := by rw [rsP, if_pos hv]
  have h3 : rsZ H ps zs n = Y.2.1 := by rw [rsZ, if_pos hv, hm]
  rw [hv, h1, h2, h3]
  clear hv h1 h2 h3 hm hNt
  have N500 : Hid (N ≤ 500) := by show _ ≤ _; omega
  have IN : Hid ((decide (0 ≤ n) && decide (n ≤ 500)) = true) := by show _ = _; simp; exact hn
  subst hN
  have HY : Hid (manyV ps N (H, zs, -1, -1) = Y) := hY
  have HX : Hid (sfV H ps zs = 0) := hx
  have SN : Hid (Sn H ps zs 8) := sn
  have H864 : Hid (ps.length = 8 ∧ zs.length = 64) := ⟨h8, h64⟩
  clear hY hx sn se hn
  obtain ⟨a0, k0, e0, _⟩ := h.h.r.shape
  obtain ⟨a1, k1, e1, _⟩ := h.h.c.shape
  obtain ⟨a2, k2, e2, _⟩ := h.h.i.shape
  obtain ⟨a3, k3, e3, _⟩ := h.h.o.shape
  obtain ⟨a4, pc, e4, _, _, g4⟩ := h.pl.shape
  obtain ⟨pg, rfl⟩ := g4 (by omega)
  obtain ⟨a5, mc, e5, _, _, g5⟩ := h.mm.shape
  obtain ⟨gm, rfl⟩ := g5 (by omega)
  rw [h8] at e4
  rw [h64] at e5
  subst e0 e1 e2 e3 e4 e5
  generalize hn0 : H.regs.length = n0 at *
  generalize hn1 : H.csr.length = n1 at *
  generalize hn2 : H.inn.length = n2 at *
  generalize hn3 : H.out.length = n3 at *
  have HS : Hid (Sm w b (.slice a0 n0 k0) (.slice a1 n1 k1) (.slice a2 n2 k2) (.slice a3 n3 k3) (.slice (some ⟨pg, 0, none⟩) 8 pc) (.slice (some ⟨gm, 0, none⟩) 64 mc) H ps zs) := h
  have HL : Hid (ps.length ≤ 1048576 ∧ zs.length ≤ 1048576) := ⟨hl, hz⟩
  clear h hl hz hn0 hn1 hn2 hn3 h8 h64
  generalize hW : (w.alloc (.cells #[.slice a0 n0 k0, .int .i64 H.pc, .slice a1 n1 k1, .bool H.halted, .bool H.waiting, .bool H.rung, .int .i64 H.done, .slice a2 n2 k2, .slice a3 n3 k3, .slice (some ⟨pg, 0, none⟩) 8 pc, .slice (some ⟨gm, 0, none⟩) 64 mc] 32)).alloc (.cells #[.int .i64 0, .slice none 0 0, .int .i64 0, .slice none 0 0, .bool false, .bool false, .bool false, .int .i64 0, .slice none 0 0, .slice none 0 0, .slice none 0 0, .slice none 0 0] 34) = W
  have B0 : Hid (Below w.heap.size w W) := by show Below _ _ _; rw [← hW]; exact al (al (Below.refl _ _) _) _
  obtain ⟨s, hS⟩ : ∃ s, w.heap.size = s := ⟨_, rfl⟩
  have HSs : Hid (w.heap.size = s) := hS
  have Q : Hid (Vb W s #[.slice a0 n0 k0, .int .i64 H.pc, .slice a1 n1 k1, .bool H.halted, .bool H.waiting, .bool H.rung, .int .i64 H.done, .slice a2 n2 k2, .slice a3 n3 k3, .slice (some ⟨pg, 0, none⟩) 8 pc, .slice (some ⟨gm, 0, none⟩) 64 mc] 32) := by show Vb _ _ _ _; rw [← hW, ← hS]; exact (Vb.new _ _ _).push _
  have R : Hid (Vb W (s + 1) #[.int .i64 0, .slice none 0 0, .int .i64 0, .slice none 0 0, .bool false, .bool false, .bool false, .int .i64 0, .slice none 0 0, .slice none 0 0, .slice none 0 0, .slice none 0 0] 34) := by
    have z1 : s + 1 = (w.alloc (.cells #[.slice a0 n0 k0, .int .i64 H.pc, .slice a1 n1 k1, .bool H.halted, .bool H.waiting, .bool H.rung, .int .i64 H.done, .slice a2 n2 k2, .slice a3 n3 k3, .slice (some ⟨pg, 0, none⟩) 8 pc, .slice (some ⟨gm, 0, none⟩) 64 mc] 32)).heap.size := by rw [← hS]; simp
    show Vb _ _ _ _; rw [← hW, z1]; exact Vb.new _ _ _
  have q0 := Q.out.cell 0 rfl
  have q1 := Q.out.cell 1 rfl
  have q2 := Q.out.cell 2 rfl
  have q3 := Q.out.cell 3 rfl
  have q4 := Q.out.cell 4 rfl
  have q5 := Q.out.cell 5 rfl
  have q6 := Q.out.cell 6 rfl
  have q7 := Q.out.cell 7 rfl
  have q8 := Q.out.cell 8 rfl
  have q9 := Q.out.cell 9 rfl
  have q10 := Q.out.cell 10 rfl
  go_enter Tryz.func5, Tryz.ntmps5
  go_wp2_with fail
  clear hW hS q0 q1 q2 q3 q4 q5 q6 q7 q8 q9 q10
  refine (s_soloFault _ _ _ _ _ _ H ps zs _ _ (HS.out.keep B0.out) HL.out.1).mono ?_
  rw [HX.out]
  rintro e w1 ⟨rfl, b1⟩
  have B1 : Hid (Below w.heap.size w w1) := on B0.out b1
  have R1 : Hid (Vb w1 (s + 1) #[.int .i64 0, .slice none 0 0, .int .i64 0, .slice none 0 0, .bool false, .bool false, .bool false, .int .i64 0, .slice none 0 0, .slice none 0 0, .slice none 0 0, .slice none 0 0] 34) := R.out.keep b1
  have Q1 : Hid (Vb w1 s #[.slice a0 n0 k0, .int .i64 H.pc, .slice a1 n1 k1, .bool H.halted, .bool H.waiting, .bool H.rung, .int .i64 H.done, .slice a2 n2 k2, .slice a3 n3 k3, .slice (some ⟨pg, 0, none⟩) 8 pc, .slice (some ⟨gm, 0, none⟩) 64 mc] 32) := Q.out.keep b1
  clear b1
  have q0 := Q1.out.cell 0 rfl
  have q1 := Q1.out.cell 1 rfl
  have q2 := Q1.out.cell 2 rfl
  have q3 := Q1.out.cell 3 rfl
  have q4 := Q1.out.cell 4 rfl
  have q5 := Q1.out.cell 5 rfl
  have q6 := Q1.out.cell 6 rfl
  have q7 := Q1.out.cell 7 rfl
  have q8 := Q1.out.cell 8 rfl
  have q9 := Q1.out.cell 9 rfl
  have q10 := Q1.out.cell 10 rfl
  go_upto_region 7 with (first | (go_at_call 17; refine (spec_in _ _ _ _).mono ?_; rintro e y ⟨rfl, hy⟩; rw [hy]; clear hy y; rw [IN.out]) | (go_at_call 18; refine (s_copy11 _ _ _ _ _ _ _ _ _ _ _ _ H pg pc ps gm mc zs b _ (HS.out.keep B1.out) SN.out.hok H864.out.1 H864.out.2).mono ?_; rintro e w2 ⟨x0, x1, x2, x3, u0, u1, u2, u3, lp, lq, mp, mq, rfl, m2, b2⟩))
  clear q0 q1 q2 q3 q4 q5 q6 q7 q8 q9 q10
  have L2 : Hid (w1.heap.size ≤ w2.heap.size ∧ s + 1 < w1.heap.size) := ⟨b2.size, R1.out.lt⟩
  have PL : Hid (Prs 61 w2 w1.heap.size (.slice lp 8 lq) ps) := m2.pl
  have T2 : Hid (Vb (w2.alloc (.cells #[.slice x0 n0 u0, .int .i64 H.pc, .slice x1 n1 u1, .bool H.halted, .bool H.waiting, .bool H.rung, .int .i64 H.done, .slice x2 n2 u2, .slice x3 n3 u3, .slice lp 8 lq, .slice mp 64 mq] 32)) w2.heap.size #[.slice x0 n0 u0, .int .i64 H.pc, .slice x1 n1 u1, .bool H.halted, .bool H.waiting, .bool H.rung, .int .i64 H.done, .slice x2 n2 u2, .slice x3 n3 u3, .slice lp 8 lq, .slice mp 64 mq] 32) := Vb.new _ _ _
  have b3 : Below w1.heap.size w1 (w2.alloc (.cells #[.slice x0 n0 u0, .int .i64 H.pc, .slice x1 n1 u1, .bool H.halted, .bool H.waiting, .bool H.rung, .int .i64 H.done, .slice x2 n2 u2, .slice x3 n3 u3, .slice lp 8 lq, .slice mp 64 mq] 32)) := al b2 _
  have R2 : Hid (Vb (w2.alloc (.cells #[.slice x0 n0 u0, .int .i64 H.pc, .slice x1 n1 u1, .bool H.halted, .bool H.waiting, .bool H.rung, .int .i64 H.done, .slice x2 n2 u2, .slice x3 n3 u3, .slice lp 8 lq, .slice mp 64 mq] 32)) (s + 1) #[.int .i64 0, .slice none 0 0, .int .i64 0, .slice none 0 0, .bool false, .bool false, .bool false, .int .i64 0, .slice none 0 0, .slice none 0 0, .slice none 0 0, .slice none 0 0] 34) := R1.out.keep b3
  have Q2 : Hid (Vb (w2.alloc (.cells #[.slice x0 n0 u0, .int .i64 H.pc, .slice x1 n1 u1, .bool H.halted, .bool H.waiting, .bool H.rung, .int .i64 H.done, .slice x2 n2 u2, .slice x3 n3 u3, .slice lp 8 lq, .slice mp 64 mq] 32)) s #[.slice a0 n0 k0, .int .i64 H.pc, .slice a1 n1 k1, .bool H.halted, .bool H.waiting, .bool H.rung, .int .i64 H.done, .slice a2 n2 k2, .slice a3 n3 k3, .slice (some ⟨pg, 0, none⟩) 8 pc, .slice (some ⟨gm, 0, none⟩) 64 mc] 32) := Q1.out.keep b3
  have B2 : Hid (Below w.heap.size w (w2.alloc (.cells #[.slice x0 n0 u0, .int .i64 H.pc, .slice x1 n1 u1, .bool H.halted, .bool H.waiting, .bool H.rung, .int .i64 H.done, .slice x2 n2 u2, .slice x3 n3 u3, .slice lp 8 lq, .slice mp 64 mq] 32))) := on B1.out b3
  have P2 : Hid (Prs 61 (w2.alloc (.cells #[.slice x0 n0 u0, .int .i64 H.pc, .slice x1 n1 u1, .bool H.halted, .bool H.waiting, .bool H.rung, .int .i64 H.done, .slice x2 n2 u2, .slice x3 n3 u3, .slice lp 8 lq, .slice mp 64 mq] 32)) w1.heap.size (.slice lp 8 lq) ps) := PL.out.keep (al (Below.refl _ _) _)
  have LPT : Hid (∀ k, (Value.slice lp 8 lq).ownBlock = some k → w1.heap.size ≤ k ∧ k < w2.heap.size) := fun k e => PL.out.lt k e
  clear m2 b2 b3 PL
  generalize w2.alloc (.cells #[.slice x0 n0 u0, .int .i64 H.pc, .slice x1 n1 u1, .bool H.halted, .bool H.waiting, .bool H.rung, .int .i64 H.done, .slice x2 n2 u2, .slice x3 n3 u3, .slice lp 8 lq, .slice mp 64 mq] 32) = W2 at *
  have LPS : Hid (s + 1 < w2.heap.size ∧ w.heap.size ≤ s) := ⟨Nat.lt_of_lt_of_le L2.out.2 L2.out.1, Nat.le_of_eq HSs.out⟩
  have L2 : Hid (s + 1 < w1.heap.size) := L2.out.2
  generalize w2.heap.size = t at *
  have q0 := Q2.out.cell 0 rfl
  have q1 := Q2.out.cell 1 rfl
  have q2 := Q2.out.cell 2 rfl
  have q3 := Q2.out.cell 3 rfl
  have q4 := Q2.out.cell 4 rfl
  have q5 := Q2.out.cell 5 rfl
  have q6 := Q2.out.cell 6 rfl
  have q7 := Q2.out.cell 7 rfl
  have q8 := Q2.out.cell 8 rfl
  have q9 := Q2.out.cell 9 rfl
  have q10 := Q2.out.cell 10 rfl
  go_upto_region 8 with (go_at_call 19; refine (z_new _ _ _ _ H pg pc ps gm 8 mc zs b _ ((HS.out.h.keep B2.out)) (HS.out.pl.keep B2.out) (HS.out.mm.keep B2.out) SN.out).mono ?_; rintro e w3 ⟨B, i3, o3, rfl, eps, ep, eb, bs3, b3⟩)
  clear q0 q1 q2 q3 q4 q5 q6 q7 q8 q9 q10
  have HB : Hid (B.ps = ps ∧ B.p = 8 ∧ B.base = W2.heap.size) := ⟨eps, ep, eb⟩
  have BS3 : Hid (Bs w3 B i3 o3 zs H (-1) (-1)) := bs3
  have B3 : Hid (Below W2.heap.size W2 w3) := b3
  have LT2 : Hid (t < W2.heap.size) := T2.out.lt
  clear eps ep eb bs3 b3
  go_wp2_with fail
  go_loopw [8] (fun k wr => ∃ j : Nat, j ≤ N ∧ k = .int .i64 j ∧ (∃ i' o' rn fa, Bs wr B i' o' (manyV ps j (H, zs, -1, -1)).2.1 (manyV ps j (H, zs, -1, -1)).1 rn fa) ∧ Below W2.heap.size W2 wr) (fun k _ => N - (intOf k).toNat)
  case atStart => exact ⟨0, Nat.zero_le _, rfl, ⟨_, _, _, _, BS3.out⟩, B3.out⟩
  case round =>
    obtain ⟨j, hj, rfl, ⟨i3, o3, rn3, fa3, hr3⟩, hb3⟩ := hrel
    have SJ : Hid (Sn (manyV ps j (H, zs, -1, -1)).1 ps (manyV ps j (H, zs, -1, -1)).2.1 8) := manyV_sn (x := (H, zs, -1, -1)) j SN.out
    have HB3 : Hid (Below W2.heap.size W2 wr) := hb3
    by_cases hlt : j < N
    · have hI : (j : Int) < (N : Int) := by omega
      have J : Hid (j < N) := hlt
      have J5 : (j : Int) ≤ 500 := by have := N500.out; omega
      have SP : Hid (manyV ps (j + 1) (H, zs, -1, -1) = _) := stepV_split SJ.out.hok ps (manyV ps j (H, zs, -1, -1)).2.1 (manyV ps j (H, zs, -1, -1)).2.2.1 (manyV ps j (H, zs, -1, -1)).2.2.2
      have e1 : (stepV (manyV ps j (H, zs, -1, -1)).1 ps (manyV ps j (H, zs, -1, -1)).2.1 (-1) (-1)).1 = (manyV ps (j + 1) (H, zs, -1, -1)).1 := by rw [SP.out]
      have e2 : (stepV (manyV ps j (H, zs, -1, -1)).1 ps (manyV ps j (H, zs, -1, -1)).2.1 (-1) (-1)).2.1 = (manyV ps (j + 1) (H, zs, -1, -1)).2.1 := by rw [SP.out]
      have STEP := z_step hr3 (by rw [HB.out.1, HB.out.2.1]; exact SJ.out)
      rw [HB.out.1, e1, e2] at STEP
      clear hlt hr3 hb3 e1 e2 SP
      go_wp2_with (go_at_call 20; refine STEP.mono ?_; clear STEP; rintro e w4 ⟨rfl, i4, o4, r4, b4⟩)
      have B4 : Below W2.heap.size W2 w4 := by have t := HB.out.2.2; rw [t] at b4; exact HB3.out.trans b4
      go_roundw
      case rel => exact ⟨j + 1, by have := J.out; omega, by go_num, ⟨i4, o4, _, _, r4⟩, B4⟩
      case measure => have := J.out; simp [intOf]; omega
    · have hI : ¬ (j : Int) < (N : Int) := by omega
      obtain rfl : j = N := by omega
      rw [HY.out] at hr3
      have R5 : Hid (Bs wr B i3 o3 Y.2.1 Y.1 rn3 fa3) := hr3
      have T5 : Hid (Vb wr t #[.slice x0 n0 u0, .int .i64 H.pc, .slice x1 n1 u1, .bool H.halted, .bool H.waiting, .bool H.rung, .int .i64 H.done, .slice x2 n2 u2, .slice x3 n3 u3, .slice lp 8 lq, .slice mp 64 mq] 32) := T2.out.keep hb3
      have RR : Hid (Vb wr (s + 1) #[.int .i64 0, .slice none 0 0, .int .i64 0, .slice none 0 0, .bool false, .bool false, .bool false, .int .i64 0, .slice none 0 0, .slice none 0 0, .slice none 0 0, .slice none 0 0] 34) := R2.out.keep hb3
      have P5 : Hid (Prs 61 wr w1.heap.size (.slice lp 8 lq) ps) := P2.out.keep hb3
      have B5 : Hid (Below w.heap.size w wr) := on B2.out hb3
      clear hr3 hb3 hlt hj HY HB3 SJ BS3 B3
      obtain ⟨xa2, xk2, e2, _⟩ := R5.out.hi.shape
      obtain ⟨bo, _, _, ho, _⟩ := R5.out.ho
      obtain ⟨xa3, xk3, e3, _⟩ := ho.shape
      clear ho
      subst e2 e3
      generalize hn2 : Y.1.inn.length = m2 at *
      generalize hn3 : Y.1.out.length = m3 at *
      clear hn2 hn3
      have TQ : t ≠ B.q := by have := R5.out.qb; have := HB.out.2.2; have := LT2.out; omega
      have q3 : wr.cell? ⟨B.q, 3, none⟩ = some (.slice (some ⟨B.rg, 0, none⟩) 16 B.rk) := R5.out.v.cell 3 rfl
      have q4 : wr.cell? ⟨B.q, 4, none⟩ = some (.int .i64 Y.1.pc) := R5.out.v.cell 4 rfl
      have q5 : wr.cell? ⟨B.q, 5, none⟩ = some (.slice (some ⟨B.cg, 0, none⟩) 11 B.ck) := R5.out.v.cell 5 rfl
      have q6 : wr.cell? ⟨B.q, 6, none⟩ = some (.bool Y.1.halted) := R5.out.v.cell 6 rfl
      have q7 : wr.cell? ⟨B.q, 7, none⟩ = some (.bool Y.1.waiting) := R5.out.v.cell 7 rfl
      have q8 : wr.cell? ⟨B.q, 8, none⟩ = some (.bool Y.1.rung) := R5.out.v.cell 8 rfl
      have q9 : wr.cell? ⟨B.q, 9, none⟩ = some (.int .i64 Y.1.done) := R5.out.v.cell 9 rfl
      have q10 : wr.cell? ⟨B.q, 10, none⟩ = some (.slice xa2 m2 xk2) := R5.out.v.cell 10 rfl
      have q11 : wr.cell? ⟨B.q, 11, none⟩ = some (.slice xa3 m3 xk3) := R5.out.v.cell 11 rfl
      have NT : Hid (_ ∧ _) := nineIn T5.out (.slice (some ⟨B.rg, 0, none⟩) 16 B.rk) (.int .i64 Y.1.pc) (.slice (some ⟨B.cg, 0, none⟩) 11 B.ck) (.bool Y.1.halted) (.bool Y.1.waiting) (.bool Y.1.rung) (.int .i64 Y.1.done) (.slice xa2 m2 xk2) (.slice xa3 m3 xk3)
      have c1 : (((((((((wr.setCell ⟨t, 0, none⟩ (.slice (some ⟨B.rg, 0, none⟩) 16 B.rk)).setCell ⟨t, 1, none⟩ (.int .i64 Y.1.pc)).setCell ⟨t, 2, none⟩ (.slice (some ⟨B.cg, 0, none⟩) 11 B.ck)).setCell ⟨t, 3, none⟩ (.bool Y.1.halted)).setCell ⟨t, 4, none⟩ (.bool Y.1.waiting)).setCell ⟨t, 5, none⟩ (.bool Y.1.rung)).setCell ⟨t, 6, none⟩ (.int .i64 Y.1.done)).setCell ⟨t, 7, none⟩ (.slice xa2 m2 xk2)).setCell ⟨t, 8, none⟩ (.slice xa3 m3 xk3)).cell? ⟨B.q, 1, none⟩ = some (.slice (some ⟨B.gm, 0, none⟩) (B.p * 8) B.mc) := (NT.out.2.vb R5.out.v (fun e => TQ e.symm)).cell 1 rfl
      have p0 := T5.out.cell 0 rfl
      have p1 := T5.out.cell 1 rfl
      have p2 := T5.out.cell 2 rfl
      have p3 := T5.out.cell 3 rfl
      have p4 := T5.out.cell 4 rfl
      have p5 := T5.out.cell 5 rfl
      have p6 := T5.out.cell 6 rfl
      have p7 := T5.out.cell 7 rfl
      have p8 := T5.out.cell 8 rfl
      have p9 := T5.out.cell 9 rfl
      have p10 := T5.out.cell 10 rfl
      have f0 := T5.out.free 0
      have f1 := T5.out.free 1
      have f2 := T5.out.free 2
      have f3 := T5.out.free 3
      have f4 := T5.out.free 4
      have f5 := T5.out.free 5
      have f6 := T5.out.free 6
      have f7 := T5.out.free 7
      have f8 := T5.out.free 8
      have f9 := T5.out.free 9
      have f10 := T5.out.free 10
      go_upto_region 14 with fail
      clear p0 f0 p1 f1 p2 f2 p3 f3 p4 f4 p5 f5 p6 f6 p7 f7 p8 f8 p9 f9 p10 f10 q3 q4 q5 q6 q7 q8 q9 q10 q11 c1
      have V6 : Hid (Vb ((((((((((wr.setCell ⟨t, 0, none⟩ (.slice (some ⟨B.rg, 0, none⟩) 16 B.rk)).setCell ⟨t, 1, none⟩ (.int .i64 Y.1.pc)).setCell ⟨t, 2, none⟩ (.slice (some ⟨B.cg, 0, none⟩) 11 B.ck)).setCell ⟨t, 3, none⟩ (.bool Y.1.halted)).setCell ⟨t, 4, none⟩ (.bool Y.1.waiting)).setCell ⟨t, 5, none⟩ (.bool Y.1.rung)).setCell ⟨t, 6, none⟩ (.int .i64 Y.1.done)).setCell ⟨t, 7, none⟩ (.slice xa2 m2 xk2)).setCell ⟨t, 8, none⟩ (.slice xa3 m3 xk3)).setCell ⟨t, 10, none⟩ (.slice (some ⟨B.gm, 0, none⟩) (B.p * 8) B.mc)) t #[.slice (some ⟨B.rg, 0, none⟩) 16 B.rk, .int .i64 Y.1.pc, .slice (some ⟨B.cg, 0, none⟩) 11 B.ck, .bool Y.1.halted, .bool Y.1.waiting, .bool Y.1.rung, .int .i64 Y.1.done, .slice xa2 m2 xk2, .slice xa3 m3 xk3, .slice lp 8 lq, .slice (some ⟨B.gm, 0, none⟩) (B.p * 8) B.mc] 32) := NT.out.1.set 10 _
      have M6 : Hid (Mq (fun k => k = t) wr ((((((((((wr.setCell ⟨t, 0, none⟩ (.slice (some ⟨B.rg, 0, none⟩) 16 B.rk)).setCell ⟨t, 1, none⟩ (.int .i64 Y.1.pc)).setCell ⟨t, 2, none⟩ (.slice (some ⟨B.cg, 0, none⟩) 11 B.ck)).setCell ⟨t, 3, none⟩ (.bool Y.1.halted)).setCell ⟨t, 4, none⟩ (.bool Y.1.waiting)).setCell ⟨t, 5, none⟩ (.bool Y.1.rung)).setCell ⟨t, 6, none⟩ (.int .i64 Y.1.done)).setCell ⟨t, 7, none⟩ (.slice xa2 m2 xk2)).setCell ⟨t, 8, none⟩ (.slice xa3 m3 xk3)).setCell ⟨t, 10, none⟩ (.slice (some ⟨B.gm, 0, none⟩) (B.p * 8) B.mc))) := NT.out.2.set ⟨t, 10, none⟩ _ rfl
      clear NT
      generalize ((((((((((wr.setCell ⟨t, 0, none⟩ (.slice (some ⟨B.rg, 0, none⟩) 16 B.rk)).setCell ⟨t, 1, none⟩ (.int .i64 Y.1.pc)).setCell ⟨t, 2, none⟩ (.slice (some ⟨B.cg, 0, none⟩) 11 B.ck)).setCell ⟨t, 3, none⟩ (.bool Y.1.halted)).setCell ⟨t, 4, none⟩ (.bool Y.1.waiting)).setCell ⟨t, 5, none⟩ (.bool Y.1.rung)).setCell ⟨t, 6, none⟩ (.int .i64 Y.1.done)).setCell ⟨t, 7, none⟩ (.slice xa2 m2 xk2)).setCell ⟨t, 8, none⟩ (.slice xa3 m3 xk3)).setCell ⟨t, 10, none⟩ (.slice (some ⟨B.gm, 0, none⟩) (B.p * 8) B.mc)) = w6 at *
      have R6 : Hid (Vb w6 (s + 1) #[.int .i64 0, .slice none 0 0, .int .i64 0, .slice none 0 0, .bool false, .bool false, .bool false, .int .i64 0, .slice none 0 0, .slice none 0 0, .slice none 0 0, .slice none 0 0] 34) := M6.out.vb RR.out (by have := LPS.out; intro e; omega)
      have B6 : Hid (Below w.heap.size w w6) := Mq.under B5.out M6.out fun k e => by have := LPS.out; omega
      have y0 := V6.out.cell 0 rfl
      have y1 := V6.out.cell 1 rfl
      have y2 := V6.out.cell 2 rfl
      have y3 := V6.out.cell 3 rfl
      have y4 := V6.out.cell 4 rfl
      have y5 := V6.out.cell 5 rfl
      have y6 := V6.out.cell 6 rfl
      have y7 := V6.out.cell 7 rfl
      have y8 := V6.out.cell 8 rfl
      have y9 := V6.out.cell 9 rfl
      have y10 := V6.out.cell 10 rfl
      have p0 := R6.out.cell 0 rfl
      have p1 := R6.out.cell 1 rfl
      have p2 := R6.out.cell 2 rfl
      have p3 := R6.out.cell 3 rfl
      have p4 := R6.out.cell 4 rfl
      have p5 := R6.out.cell 5 rfl
      have p6 := R6.out.cell 6 rfl
      have p7 := R6.out.cell 7 rfl
      have p8 := R6.out.cell 8 rfl
      have p9 := R6.out.cell 9 rfl
      have p10 := R6.out.cell 10 rfl
      have p11 := R6.out.cell 11 rfl
      have f0 := R6.out.free 0
      have f1 := R6.out.free 1
      have f2 := R6.out.free 2
      have f3 := R6.out.free 3
      have f4 := R6.out.free 4
      have f5 := R6.out.free 5
      have f6 := R6.out.free 6
      have f7 := R6.out.free 7
      have f8 := R6.out.free 8
      have f9 := R6.out.free 9
      have f10 := R6.out.free 10
      have f11 := R6.out.free 11
      have lt := R6.out.lt
      go_wp2_with fail
      clear y0 y1 y2 y3 y4 y5 y6 y7 y8 y9 y10
      clear p0 f0 p1 f1 p2 f2 p3 f3 p4 f4 p5 f5 p6 f6 p7 f7 p8 f8 p9 f9 p10 f10 p11 f11 lt
      have NN : Hid (_ ∧ _) := twelveX R6.out (.int .i64 0) (.slice (some ⟨B.rg, 0, none⟩) 16 B.rk) (.int .i64 Y.1.pc) (.slice (some ⟨B.cg, 0, none⟩) 11 B.ck) (.bool Y.1.halted) (.bool Y.1.waiting) (.bool Y.1.rung) (.int .i64 Y.1.done) (.slice xa2 m2 xk2) (.slice xa3 m3 xk3) (.slice lp 8 lq) (.slice (some ⟨B.gm, 0, none⟩) (B.p * 8) B.mc)
      generalize ((((((((((((w6.setCell ⟨s + 1, 0, none⟩ (.int .i64 0)).setCell ⟨s + 1, 1, none⟩ (.slice (some ⟨B.rg, 0, none⟩) 16 B.rk)).setCell ⟨s + 1, 2, none⟩ (.int .i64 Y.1.pc)).setCell ⟨s + 1, 3, none⟩ (.slice (some ⟨B.cg, 0, none⟩) 11 B.ck)).setCell ⟨s + 1, 4, none⟩ (.bool Y.1.halted)).setCell ⟨s + 1, 5, none⟩ (.bool Y.1.waiting)).setCell ⟨s + 1, 6, none⟩ (.bool Y.1.rung)).setCell ⟨s + 1, 7, none⟩ (.int .i64 Y.1.done)).setCell ⟨s + 1, 8, none⟩ (.slice xa2 m2 xk2)).setCell ⟨s + 1, 9, none⟩ (.slice xa3 m3 xk3)).setCell ⟨s + 1, 10, none⟩ (.slice lp 8 lq)).setCell ⟨s + 1, 11, none⟩ (.slice (some ⟨B.gm, 0, none⟩) (B.p * 8) B.mc)) = W9 at *
      have FIN : Hid (Sq W9 w.heap.size (.slice (some ⟨B.rg, 0, none⟩) 16 B.rk) (.slice (some ⟨B.cg, 0, none⟩) 11 B.ck) (.slice xa2 m2 xk2) (.slice xa3 m3 xk3) (.slice lp 8 lq) (.slice (some ⟨B.gm, 0, none⟩) (B.p * 8) B.mc) Y.1 ps Y.2.1) := by
        have M9 : Mq (fun k => k < B.base) wr W9 := (mq_wid M6.out (fun k e => by have := HB.out.2.2; have := LT2.out; show k < B.base; have e' : k = t := e; omega)).trans (mq_wid NN.out.2 (fun k e => by have := HB.out.2.2; have := LPS.out; have := LT2.out; show k < B.base; have e' : k = s + 1 := e; omega))
        have M8 : Mq (fun k => k = t ∨ k = s + 1) wr W9 := (mq_wid M6.out (fun k e => .inl e)).trans (mq_wid NN.out.2 (fun k e => .inr e))
        obtain ⟨bo, hb0, _, ho, _⟩ := R5.out.ho
        refine ⟨⟨R5.out.hr.rv.mq M9 fun k e _ => by have := (R5.out.hr.lt k e).1; show ¬ k < B.base; omega, R5.out.hc.rv.mq M9 fun k e _ => by have := (R5.out.hc.lt k e).1; show ¬ k < B.base; omega, R5.out.hi.mq M9 fun k e _ => by have := (R5.out.ib k e).1; show ¬ k < B.base; omega, ho.rv.mq M9 fun k e _ => by have := (ho.lt k e).1; show ¬ k < B.base; omega⟩, (P5.out.low' M8 fun k e => ?_).mono ?_, R5.out.hm.rv.mq M9 fun k e _ => by have := (R5.out.hm.lt k e).1; show ¬ k < B.base; omega⟩
        · have h1 := LPT.out k e
          have h2 := L2.out
          intro f
          rcases f with f | f <;> omega
        · exact B1.out.size
      have OWL : Hid (∀ k, OwnS (.slice (some ⟨B.rg, 0, none⟩) 16 B.rk) (.slice (some ⟨B.cg, 0, none⟩) 11 B.ck) (.slice xa2 m2 xk2) (.slice xa3 m3 xk3) (.slice lp 8 lq) (.slice (some ⟨B.gm, 0, none⟩) (B.p * 8) B.mc) k → k < W9.heap.size) := fun k e => by
        have z : wr.heap.size ≤ W9.heap.size := Nat.le_trans M6.out.size NN.out.2.size
        obtain ⟨bo, _, _, ho, _⟩ := R5.out.ho
        rcases e with (e | e | e | e) | e | e
        · have := (R5.out.hr.lt k e).2; omega
        · have := (R5.out.hc.lt k e).2; omega
        · have := (R5.out.ib k e).2.1; omega
        · have := (ho.lt k e).2; omega
        · have := (P5.out.lt k e).2; omega
        · have := (R5.out.hm.lt k e).2; omega
      have x0 := NN.out.1.cell 0 rfl
      have x1 := NN.out.1.cell 1 rfl
      have x2 := NN.out.1.cell 2 rfl
      have x3 := NN.out.1.cell 3 rfl
      have x4 := NN.out.1.cell 4 rfl
      have x5 := NN.out.1.cell 5 rfl
      have x6 := NN.out.1.cell 6 rfl
      have x7 := NN.out.1.cell 7 rfl
      have x8 := NN.out.1.cell 8 rfl
      have x9 := NN.out.1.cell 9 rfl
      have x10 := NN.out.1.cell 10 rfl
      have x11 := NN.out.1.cell 11 rfl
      exact bodyPost_ret (v := .agg #[.int .i64 0, .slice (some ⟨B.rg, 0, none⟩) 16 B.rk, .int .i64 Y.1.pc, .slice (some ⟨B.cg, 0, none⟩) 11 B.ck, .bool Y.1.halted, .bool Y.1.waiting, .bool Y.1.rung, .int .i64 Y.1.done, .slice xa2 m2 xk2, .slice xa3 m3 xk3, .slice lp 8 lq, .slice (some ⟨B.gm, 0, none⟩) (B.p * 8) B.mc]) (by simp [results, Tryz.results5, go_sem, x0, x1, x2, x3, x4, x5, x6, x7, x8, x9, x10, x11]) rfl
        ⟨_, _, _, _, _, _, rfl, ⟨FIN.out, OWL.out⟩, Mq.under B6.out NN.out.2 fun k e => by have := HSs.out; omega⟩
theorem s_runSolo (r c i o l m : Value) (H : Ht) (ps : List (Int × Int)) (zs : List Int) (n : Int) (b : Nat) (w : World) (h : Sm w b r c i o l m H ps zs) (hl : ps.length ≤ 1048576) (hz : zs.length ≤ 1048576) :
    Calls Tryz.prog 5 #[.agg #[r, .int .i64 H.pc, c, .bool H.halted, .bool H.waiting, .bool H.rung, .int .i64 H.done, i, o, l, m], .int .i64 n] w fun e w' => ∃ r' c' i' o' l' m', e = .returned (.agg #[.int .i64 (rsC H ps zs n), r', .int .i64 (rsH H ps zs n).pc, c', .bool (rsH H ps zs n).halted, .bool (rsH H ps zs n).waiting, .bool (rsH H ps zs n).rung, .int .i64 (rsH H ps zs n).done, i', o', l', m']) ∧ Sp w' w.heap.size r' c' i' o' l' m' (rsH H ps zs n) (rsP H ps zs n) (rsZ H ps zs n) ∧ Below w.heap.size w w' := by
  by_cases hx : sfV H ps zs = 0
  · by_cases hn : 0 ≤ n ∧ n ≤ 500
    · exact sr_good r c i o l m H ps zs n b w h hl hz hx hn
    · exact sr_range r c i o l m H ps zs n b w h hl hz hx hn
  · exact sr_bad r c i o l m H ps zs n b w h hl hz hx
end Go.Proofs.YtimcoobhakfnaaaGreatDoor
