/- Texts of this seat, joined. -/
import Derived.Test.YtcbcbgomafeccaaGreatDoorQ23
import Derived.Test.YtcbcbgomafeccaaGreatDoorQ34
import Derived.Test.YtcbcbgomafeccaaGreatDoorQ46
import Derived.Test.YtcbcbgomafeccaaGreatDoorQ48
import Derived.Test.YtcbcbgomafeccaaGreatDoorQ49
namespace Go.Proofs.YtcbcbgomafeccaaGreatDoor
open Go.RowKit
set_option linter.unusedVariables false

def Zp (w w' : World) (B : Bp) (e : Ending) (D : Dr) : Prop := match D.t with
  | none => e = .returned (.bool true) ∧ ∃ i' o', Bs w' B i' o' D.zs { D.H with pc := D.next } D.ri (-1) ∧ Below B.base w w'
  | some (c, t) => e = .returned (.bool false) ∧ ∃ i' o', Bs w' B i' o' D.zs (trapV D.H c t) D.ri c ∧ Below B.base w w'
theorem z_do {w : World} {B : Bp} {i o : Value} {zs : List Int} {H : Ht} (R : Bs w B i o zs H (-1) (-1)) (sn : Sn H B.ps zs B.p) (op : Int) (d a : Nat) (im : Int) (hi : insC op d a im = 0) :
    Calls Tryz.prog 46 #[.pointer (some ⟨B.q, 0, none⟩), .agg #[.int .i64 op, .int .i64 (d : Int), .int .i64 (a : Int), .int .i64 im]] w fun e w' => Zp w w' B e (doV H B.ps zs (-1) op d a im) := by
  have q := ins_parts hi
  have hd : d < 16 := by omega
  have ha : a < 16 := by omega
  by_cases h12 : op = 12
  · subst h12
    exact zd_12 R sn d a hd ha im q.2.2.2.2.2.2.1 q.2.2.2.2.2.2.2.1
  by_cases h13 : op = 13
  · subst h13
    exact zd_13 R sn d a hd ha im q.2.2.2.2.2.2.1 q.2.2.2.2.2.2.2.1
  by_cases h14 : op = 14
  · subst h14
    have e : doV H B.ps zs (-1) 14 d a im = if plC H B.ps zs (addV (gt H.regs a) (offV im)) 1 = 0 then ⟨none, (addV H.pc 1), putV (loadH H B.ps zs (addV (gt H.regs a) (offV im))) d (loadW H B.ps zs (addV (gt H.regs a) (offV im))), zs, (-1)⟩ else ⟨some (3, (addV (gt H.regs a) (offV im))), 0, H, zs, (-1)⟩ := rfl
    rw [e]
    by_cases hz : plC H B.ps zs (addV (gt H.regs a) (offV im)) 1 = 0
    · rw [if_pos hz]; exact zd_14 R sn d a hd ha im q.2.2.2.2.2.2.1 q.2.2.2.2.2.2.2.1 hz
    · rw [if_neg hz]; exact zd_14no R sn d a hd ha im q.2.2.2.2.2.2.1 q.2.2.2.2.2.2.2.1 hz
  by_cases h15 : op = 15
  · subst h15
    have e : doV H B.ps zs (-1) 15 d a im = if plC H B.ps zs (addV (gt H.regs a) (offV im)) 2 = 0 then ⟨none, (addV H.pc 1), storeH H B.ps zs (addV (gt H.regs a) (offV im)) (gt H.regs d), storeZ H B.ps zs (addV (gt H.regs a) (offV im)) (gt H.regs d), storeR H B.ps zs (addV (gt H.regs a) (offV im)) (gt H.regs d) (-1)⟩ else ⟨some (4, (addV (gt H.regs a) (offV im))), 0, H, zs, (-1)⟩ := rfl
    rw [e]
    by_cases hz : plC H B.ps zs (addV (gt H.regs a) (offV im)) 2 = 0
    · rw [if_pos hz]; exact zd_15 R sn d a hd ha im q.2.2.2.2.2.2.1 q.2.2.2.2.2.2.2.1 hz
    · rw [if_neg hz]; exact zd_15no R sn d a hd ha im q.2.2.2.2.2.2.1 q.2.2.2.2.2.2.2.1 hz
  by_cases h16 : op = 16
  · subst h16
    exact zd_16 R sn d a hd ha im q.2.2.2.2.2.2.1 q.2.2.2.2.2.2.2.1
  by_cases h17 : op = 17
  · subst h17
    exact zd_17 R sn d a hd ha im q.2.2.2.2.2.2.1 q.2.2.2.2.2.2.2.1
  by_cases h18 : op = 18
  · subst h18
    exact zd_18 R sn d a hd ha im q.2.2.2.2.2.2.1 q.2.2.2.2.2.2.2.1
  by_cases h19 : op = 19
  · subst h19
    exact zd_19 R sn d a hd ha im q.2.2.2.2.2.2.1 q.2.2.2.2.2.2.2.1
  by_cases h20 : op = 20
  · subst h20
    exact zd_20 R sn d a hd ha im q.2.2.2.2.2.2.1 q.2.2.2.2.2.2.2.1
  by_cases h21 : op = 21
  · subst h21
    exact zd_21 R sn d a hd ha im q.2.2.2.2.2.2.1 q.2.2.2.2.2.2.2.1 (q.2.2.2.2.2.2.2.2.2 (by decide))
  by_cases h22 : op = 22
  · subst h22
    exact zd_22 R sn d a hd ha im q.2.2.2.2.2.2.1 q.2.2.2.2.2.2.2.1 (q.2.2.2.2.2.2.2.2.2 (by decide))
  by_cases h23 : op = 23
  · subst h23
    exact zd_23 R sn d a hd ha im q.2.2.2.2.2.2.1 q.2.2.2.2.2.2.2.1
  by_cases h24 : op = 24
  · subst h24
    exact zd_24 R sn d a hd ha im q.2.2.2.2.2.2.1 q.2.2.2.2.2.2.2.1
  by_cases h25 : op = 25
  · subst h25
    exact zd_25 R sn d a hd ha im q.2.2.2.2.2.2.1 q.2.2.2.2.2.2.2.1
  by_cases h26 : op = 26
  · subst h26
    exact zd_26 R sn d a hd ha im q.2.2.2.2.2.2.1 q.2.2.2.2.2.2.2.1
  obtain ⟨b, rfl⟩ : ∃ b : Nat, im = (b : Int) := ⟨im.toNat, by omega⟩
  have hb : b < 16 := by have := q.2.2.2.2.2.2.2.2.1 (by omega); omega
  have e : doV H B.ps zs (-1) op d a (b : Int) = ⟨none, (addV H.pc 1), putV H d (aluV op (gt H.regs a) (gt H.regs b)), zs, (-1)⟩ := by
    unfold doV
    rw [if_neg h12, if_neg h13, if_neg h14, if_neg h15, if_neg h16, if_neg h17, if_neg h18, if_neg h19, if_neg h20, if_neg h21, if_neg h22, if_neg h23, if_neg h24, if_neg h25, if_neg h26]
    rfl
  rw [e]
  exact zd_alu R sn d a hd ha b hb op ⟨by omega, by omega⟩
def runV (H : Ht) (ps : List (Int × Int)) (zs : List Int) : Ht × List Int × Int × Int :=
  if ¬ plC H ps zs H.pc 4 = 0 then (trapV H 2 H.pc, zs, 2, -1)
  else if ¬ decF (fetZ H ps zs) = 0 then (trapV H 1 (fetZ H ps zs), zs, 1, -1)
  else match doV H ps zs (-1) (fetZ H ps zs / 16777216) (fetZ H ps zs / 1048576 % 16).toNat (fetZ H ps zs / 65536 % 16).toNat (fetZ H ps zs % 65536) with
    | ⟨some (c, t), _, G, ys, rj⟩ => (trapV G c t, ys, c, rj)
    | ⟨none, n, G, ys, rj⟩ => ({ G with pc := n, done := min (G.done + 1) 1000000000 }, ys, -1, rj)
theorem ins_var (x : World) (u0 u1 u2 u3 : Value) : Vb (x.alloc (.cells #[u0, u1, u2, u3] 81)) x.heap.size #[u0, u1, u2, u3] 81 ∧ Below x.heap.size x (x.alloc (.cells #[u0, u1, u2, u3] 81)) := ⟨Vb.new _ _ _, al (Below.refl _ _) _⟩
theorem z_decYes (v : Int) (h : decF v = 0) (w : World) : Calls Tryz.prog 45 #[.int .i64 v] w fun e w' => e = .returned (.tuple #[.agg #[.int .i64 (v / 16777216), .int .i64 (((v / 1048576 % 16).toNat : Nat) : Int), .int .i64 (((v / 65536 % 16).toNat : Nat) : Int), .int .i64 (v % 65536)], .bool true]) ∧ Below w.heap.size w w' := by
  have he := spec_l2Decode v w
  rw [if_pos (dec_in h), h, and15, and15, and65535] at he
  have e1 : (((v / 1048576 % 16).toNat : Nat) : Int) = v / 1048576 % 16 := by omega
  have e2 : (((v / 65536 % 16).toNat : Nat) : Int) = v / 65536 % 16 := by omega
  rw [e1, e2]
  exact he
theorem z_decNo (v : Int) (h : ¬ decF v = 0) : ∃ x0 x1 x2 x3 : Int, ∀ w, Calls Tryz.prog 45 #[.int .i64 v] w fun e w' => e = .returned (.tuple #[.agg #[.int .i64 x0, .int .i64 x1, .int .i64 x2, .int .i64 x3], .bool false]) ∧ Below w.heap.size w w' := by
  have he := fun w => spec_l2Decode v w
  have g : (decF v == 0) = false := beq_eq_false_iff_ne.2 h
  by_cases h' : 0 ≤ v ∧ v ≤ 4294967295
  · rw [if_pos h', g] at he; exact ⟨_, _, _, _, he⟩
  · rw [if_neg h'] at he; exact ⟨_, _, _, _, he⟩
theorem z_min (x y : Int) (w : World) : Calls Tryz.prog 47 #[.int .i64 x, .int .i64 y] w fun e w' => e = .returned (.int .i64 (if x < y then x else y)) ∧ w' = w := by
  by_cases h : x < y
  · rw [if_pos h]
    go_enter Tryz.func47, Tryz.ntmps47
    go_wp2
    go_ret
    exact ⟨rfl, rfl⟩
  · rw [if_neg h]
    go_enter Tryz.func47, Tryz.ntmps47
    go_wp2
    go_ret
    exact ⟨rfl, rfl⟩
set_option maxRecDepth 20000 in
set_option maxHeartbeats 8000000 in
theorem zs_halts {w : World} {B : Bp} {i o : Value} {zs : List Int} {H : Ht} {ri fa : Int} (R : Bs w B i o zs H ri fa) (sn : Sn H B.ps zs B.p) (hh : H.halted = true) :
    Calls Tryz.prog 26 #[.pointer (some ⟨B.q, 0, none⟩)] w fun e w' => e = .returned (.tuple #[]) ∧ ∃ i' o', Bs w' B i' o' (stepV H B.ps zs (-1) (-1)).2.1 (stepV H B.ps zs (-1) (-1)).1 (stepV H B.ps zs (-1) (-1)).2.2.2 (stepV H B.ps zs (-1) (-1)).2.2.1 ∧ Below B.base w w' := by
  have hv : (stepV H B.ps zs (-1) (-1)) = (H, zs, -1, -1) := if_pos hh
  rw [hv]
  have HH : Hid (H.halted = true) := hh
  clear hv hh
  have d2 : w.cell? ⟨B.q, 2, none⟩ = some (.int .i64 ri) := R.v.cell 2 rfl
  have g2 := R.v.free 2
  have U1 := R.fld (G := H) (ri' := -1) (fa' := fa) 2 (.int .i64 (-1)) rfl rfl rfl rfl rfl
  have d12 : w.cell? ⟨B.q, 12, none⟩ = some (.int .i64 fa) := R.v.cell 12 rfl
  have g12 := R.v.free 12
  have U2 := U1.1.fld (G := H) (ri' := -1) (fa' := -1) 12 (.int .i64 (-1)) rfl rfl rfl rfl rfl
  have R0 : Hid (Bs ((w.setCell ⟨B.q, 2, none⟩ (.int .i64 (-1))).setCell ⟨B.q, 12, none⟩ (.int .i64 (-1))) B i o zs H (-1) (-1)) := U2.1
  have B0 : Hid (Below B.base w ((w.setCell ⟨B.q, 2, none⟩ (.int .i64 (-1))).setCell ⟨B.q, 12, none⟩ (.int .i64 (-1)))) := U1.2.trans U2.2
  have SN : Hid (Sn H B.ps zs B.p) := sn
  clear U1 U2 R sn
  go_enter Tryz.func26, Tryz.ntmps26
  go_upto_region 3 with fail
  clear d2 g2 d12 g12
  generalize (w.setCell ⟨B.q, 2, none⟩ (.int .i64 (-1))).setCell ⟨B.q, 12, none⟩ (.int .i64 (-1)) = x0 at *
  have d6 : x0.cell? ⟨B.q, 6, none⟩ = some (.bool H.halted) := R0.out.v.cell 6 rfl
  rw [HH.out] at d6
  go_wp2_with fail
  exact bodyPost_ret (results_none rfl _ _ _) rfl ⟨rfl, _, _, R0.out, B0.out⟩
set_option maxRecDepth 20000 in
set_option maxHeartbeats 8000000 in
theorem zs_due {w : World} {B : Bp} {i o : Value} {zs : List Int} {H : Ht} {ri fa : Int} (R : Bs w B i o zs H ri fa) (sn : Sn H B.ps zs B.p) (hh : H.halted = false) (hd : ¬ dueV H < 0) :
    Calls Tryz.prog 26 #[.pointer (some ⟨B.q, 0, none⟩)] w fun e w' => e = .returned (.tuple #[]) ∧ ∃ i' o', Bs w' B i' o' (stepV H B.ps zs (-1) (-1)).2.1 (stepV H B.ps zs (-1) (-1)).1 (stepV H B.ps zs (-1) (-1)).2.2.2 (stepV H B.ps zs (-1) (-1)).2.2.1 ∧ Below B.base w w' := by
  have hv : (stepV H B.ps zs (-1) (-1)) = (trapV H (16 + dueV H) 0, zs, 16 + dueV H, -1) := by unfold stepV; rw [if_neg (by simp [hh]), if_pos hd]
  rw [hv]
  have HH : Hid (H.halted = false) := hh
  have dl := due_le H
  obtain ⟨dv, hdv⟩ : ∃ v, dueV H = v := ⟨_, rfl⟩
  have HD : Hid (dueV H = dv) := hdv
  rw [hdv] at dl hd ⊢
  clear hv hh hdv
  have hd0 : 0 ≤ dv := by omega
  have d2 : w.cell? ⟨B.q, 2, none⟩ = some (.int .i64 ri) := R.v.cell 2 rfl
  have g2 := R.v.free 2
  have U1 := R.fld (G := H) (ri' := -1) (fa' := fa) 2 (.int .i64 (-1)) rfl rfl rfl rfl rfl
  have d12 : w.cell? ⟨B.q, 12, none⟩ = some (.int .i64 fa) := R.v.cell 12 rfl
  have g12 := R.v.free 12
  have U2 := U1.1.fld (G := H) (ri' := -1) (fa' := -1) 12 (.int .i64 (-1)) rfl rfl rfl rfl rfl
  have R0 : Hid (Bs ((w.setCell ⟨B.q, 2, none⟩ (.int .i64 (-1))).setCell ⟨B.q, 12, none⟩ (.int .i64 (-1))) B i o zs H (-1) (-1)) := U2.1
  have B0 : Hid (Below B.base w ((w.setCell ⟨B.q, 2, none⟩ (.int .i64 (-1))).setCell ⟨B.q, 12, none⟩ (.int .i64 (-1)))) := U1.2.trans U2.2
  have SN : Hid (Sn H B.ps zs B.p) := sn
  clear U1 U2 R sn
  go_enter Tryz.func26, Tryz.ntmps26
  go_upto_region 3 with fail
  clear d2 g2 d12 g12
  generalize (w.setCell ⟨B.q, 2, none⟩ (.int .i64 (-1))).setCell ⟨B.q, 12, none⟩ (.int .i64 (-1)) = x0 at *
  have d6 : x0.cell? ⟨B.q, 6, none⟩ = some (.bool H.halted) := R0.out.v.cell 6 rfl
  rw [HH.out] at d6
  go_wp2_with (go_at_call 41; refine (z_due R0.out SN.out.hok).mono ?_; rintro e x1 ⟨rfl, b1⟩; rw [HD.out])
  have R1 : Hid (Bs x1 B i o zs H (-1) (-1)) := R0.out.keep b1
  have B1 : Hid (Below B.base w x1) := B0.out.trans (bless b1 R0.out.size)
  clear b1
  refine (z_fall R1.out SN.out.hok (16 + dv) 0).mono ?_
  rintro e x2 ⟨rfl, r2, b2⟩
  have R2 : Hid (Bs x2 B i o zs (trapV H (16 + dv) 0) (-1) (16 + dv) ∧ Below B.base w x2) := ⟨r2, B1.out.trans b2⟩
  clear r2 b2
  go_wp2_with fail
  exact bodyPost_ret (results_none rfl _ _ _) rfl ⟨rfl, _, _, R2.out.1, R2.out.2⟩
set_option maxRecDepth 20000 in
set_option maxHeartbeats 8000000 in
theorem zs_waits {w : World} {B : Bp} {i o : Value} {zs : List Int} {H : Ht} {ri fa : Int} (R : Bs w B i o zs H ri fa) (sn : Sn H B.ps zs B.p) (hh : H.halted = false) (hd : dueV H < 0) (hw : H.waiting = true) (hb0 : bothV H = 0) :
    Calls Tryz.prog 26 #[.pointer (some ⟨B.q, 0, none⟩)] w fun e w' => e = .returned (.tuple #[]) ∧ ∃ i' o', Bs w' B i' o' (stepV H B.ps zs (-1) (-1)).2.1 (stepV H B.ps zs (-1) (-1)).1 (stepV H B.ps zs (-1) (-1)).2.2.2 (stepV H B.ps zs (-1) (-1)).2.2.1 ∧ Below B.base w w' := by
  have hv : (stepV H B.ps zs (-1) (-1)) = (H, zs, -1, -1) := by
    have e : waitV H = H := by cases H; simp_all [waitV]
    unfold stepV
    rw [if_neg (by simp [hh]), if_neg (by simpa using hd), e, if_pos hw]
  rw [hv]
  have HH : Hid (H.halted = false) := hh
  have HW : Hid (H.waiting = true) := hw
  obtain ⟨dv, hdv⟩ : ∃ v, dueV H = v := ⟨_, rfl⟩
  have HD : Hid (dueV H = dv) := hdv
  rw [hdv] at hd
  have hd0 : ¬ 0 ≤ dv := by omega
  clear hdv hd
  have be := both_eq H (all_at sn.hok.cw 7).1 (all_at sn.hok.cw 7).2
  obtain ⟨g7, hg7⟩ : ∃ g, gt H.csr 7 = g := ⟨_, rfl⟩
  obtain ⟨pv, hp⟩ : ∃ g, pendV H = g := ⟨_, rfl⟩
  obtain ⟨bv, hb⟩ : ∃ g, bothV H = g := ⟨_, rfl⟩
  have HG7 : Hid (gt H.csr 7 = g7) := hg7
  have HPV : Hid (pendV H = pv) := hp
  rw [hg7, hp, hb] at be
  have BE : Hid (bits BinOp.and IntKind.i64 pv g7 = bv) := be
  rw [hb] at hb0
  have BQ : Hid ((bv == 0) = true) := by show _ = _; simpa using hb0
  clear hg7 hp hb be hb0
  clear hv hh hw
  have d2 : w.cell? ⟨B.q, 2, none⟩ = some (.int .i64 ri) := R.v.cell 2 rfl
  have g2 := R.v.free 2
  have U1 := R.fld (G := H) (ri' := -1) (fa' := fa) 2 (.int .i64 (-1)) rfl rfl rfl rfl rfl
  have d12 : w.cell? ⟨B.q, 12, none⟩ = some (.int .i64 fa) := R.v.cell 12 rfl
  have g12 := R.v.free 12
  have U2 := U1.1.fld (G := H) (ri' := -1) (fa' := -1) 12 (.int .i64 (-1)) rfl rfl rfl rfl rfl
  have R0 : Hid (Bs ((w.setCell ⟨B.q, 2, none⟩ (.int .i64 (-1))).setCell ⟨B.q, 12, none⟩ (.int .i64 (-1))) B i o zs H (-1) (-1)) := U2.1
  have B0 : Hid (Below B.base w ((w.setCell ⟨B.q, 2, none⟩ (.int .i64 (-1))).setCell ⟨B.q, 12, none⟩ (.int .i64 (-1)))) := U1.2.trans U2.2
  have SN : Hid (Sn H B.ps zs B.p) := sn
  clear U1 U2 R sn
  go_enter Tryz.func26, Tryz.ntmps26
  go_upto_region 3 with fail
  clear d2 g2 d12 g12
  generalize (w.setCell ⟨B.q, 2, none⟩ (.int .i64 (-1))).setCell ⟨B.q, 12, none⟩ (.int .i64 (-1)) = x0 at *
  have d6 : x0.cell? ⟨B.q, 6, none⟩ = some (.bool H.halted) := R0.out.v.cell 6 rfl
  rw [HH.out] at d6
  go_upto_region 7 with (go_at_call 41; refine (z_due R0.out SN.out.hok).mono ?_; rintro e x1 ⟨rfl, b1⟩; rw [HD.out]; have R1 : Hid (Bs x1 B i o zs H (-1) (-1)) := R0.out.keep b1; have B1 : Hid (Below B.base w x1) := B0.out.trans (bless b1 R0.out.size); clear b1 d6)
  have c7w : x1.cell? ⟨B.q, 7, none⟩ = some (.bool true) := by rw [← HW.out]; exact R1.out.v.cell 7 rfl
  go_upto_region 8 with fail
  clear c7w
  have S1 : Hid (x1.drew.cell? ⟨B.q, 5, none⟩ = some (.slice (some ⟨B.cg, 0, none⟩) 11 B.ck) ∧ x1.drew.cell? ⟨B.cg, 7, none⟩ = some (.int .i64 g7)) := ⟨R1.out.v.cell 5 rfl, by rw [← HG7.out]; exact R1.out.hc.cell R1.out.hc.len 7 (by decide)⟩
  replace R1 := hid_dr R1
  replace B1 := hid_bd B1
  refine wp_region_held (S := fun w' => w'.cell? ⟨B.q, 5, none⟩ = some (.slice (some ⟨B.cg, 0, none⟩) 11 B.ck) ∧ w'.cell? ⟨B.cg, 7, none⟩ = some (.int .i64 g7)) (by kernel_rfl) ?_
  change wpAnyH _ _ _ _ _ _ _ _ (World.drew _)
  generalize x1.drew = x1' at *
  refine wpAnyH_take (i := 0) (v := .pointer (some ⟨B.q, 3, none⟩)) rfl (by kernel_rfl) (by kernel_rfl) (by kernel_rfl) (fun _ _ _ h => h) (Or.inl ⟨by rfl, fun w' hs => by go_simp⟩) S1.out ?_
  change wpAnyH _ _ _ _ _ _ _ (Act.put _ (some 33) _) _
  simp only [Act.put, List.setIfInBounds_toArray, List.set_cons_zero, List.set_cons_succ]
  refine wpAnyH_take (i := 2) (v := .pointer (some ⟨B.q, 3, none⟩)) rfl (by kernel_rfl) (by kernel_rfl) (by kernel_rfl) (fun _ _ _ h => h) (Or.inl ⟨by rfl, fun w' hs => by go_simp⟩) S1.out ?_
  change wpAnyH _ _ _ _ _ _ _ (Act.put _ (some 35) _) _
  simp only [Act.put, List.setIfInBounds_toArray, List.set_cons_zero, List.set_cons_succ]
  refine wpAnyH_take (i := 3) (v := .pointer (some ⟨B.q, 3, none⟩)) rfl (by kernel_rfl) (by kernel_rfl) (by kernel_rfl) (fun _ _ _ h => h) (Or.inl ⟨by rfl, fun w' hs => by go_simp⟩) S1.out ?_
  change wpAnyH _ _ _ _ _ _ _ (Act.put _ (some 36) _) _
  simp only [Act.put, List.setIfInBounds_toArray, List.set_cons_zero, List.set_cons_succ]
  refine wpAnyH_take (i := 4) (v := .pointer (some ⟨B.q, 5, none⟩)) rfl (by kernel_rfl) (by kernel_rfl) (by kernel_rfl) (fun _ _ _ h => h) (Or.inl ⟨by rfl, fun w' hs => by go_simp⟩) S1.out ?_
  change wpAnyH _ _ _ _ _ _ _ (Act.put _ (some 37) _) _
  simp only [Act.put, List.setIfInBounds_toArray, List.set_cons_zero, List.set_cons_succ]
  refine wpAnyH_take (i := 5) (v := .slice (some ⟨B.cg, 0, none⟩) 11 B.ck) rfl (by kernel_rfl) (by kernel_rfl) (by kernel_rfl) (fun _ _ _ h => h) (Or.inl ⟨by rfl, fun w' hs => by have hc := hs.1; go_simp⟩) S1.out ?_
  change wpAnyH _ _ _ _ _ _ _ (Act.put _ (some 38) _) _
  simp only [Act.put, List.setIfInBounds_toArray, List.set_cons_zero, List.set_cons_succ]
  refine wpAnyH_take (i := 6) (v := .pointer (some ⟨B.cg, 7, none⟩)) rfl (by kernel_rfl) (by kernel_rfl) (by kernel_rfl) (fun _ _ _ h => h) (Or.inl ⟨by rfl, fun w' hs => by go_simp⟩) S1.out ?_
  change wpAnyH _ _ _ _ _ _ _ (Act.put _ (some 39) _) _
  simp only [Act.put, List.setIfInBounds_toArray, List.set_cons_zero, List.set_cons_succ]
  refine wpAnyH_take (i := 7) (v := .int .i64 g7) rfl (by kernel_rfl) (by kernel_rfl) (by kernel_rfl) (fun _ _ _ h => h) (Or.inl ⟨by rfl, fun w' hs => by have hc := hs.2; go_simp⟩) S1.out ?_
  change wpAnyH _ _ _ _ _ _ _ (Act.put _ (some 40) _) _
  simp only [Act.put, List.setIfInBounds_toArray, List.set_cons_zero, List.set_cons_succ]
  refine wpAnyH_ready (rs := [1]) (by kernel_rfl) (by simp) ?_
  refine AllReadyH.cons rfl (fun K hK => ?_) AllReadyH.nil
  rw [if_pos (by rfl)]
  go_simp
  refine (z_pending R1.out).mono ?_
  rw [HPV.out]
  rintro e x2 ⟨rfl, b2⟩
  have R2 : Hid (Bs x2 B i o zs H (-1) (-1)) := R1.out.keep b2
  have B2 : Hid (Below B.base w x2) := B1.out.trans (bless b2 R1.out.size)
  have S2 : Hid (x2.cell? ⟨B.q, 5, none⟩ = some (.slice (some ⟨B.cg, 0, none⟩) 11 B.ck) ∧ x2.cell? ⟨B.cg, 7, none⟩ = some (.int .i64 g7)) := ⟨R2.out.v.cell 5 rfl, by rw [← HG7.out]; exact R2.out.hc.cell R2.out.hc.len 7 (by decide)⟩
  clear b2
  refine hK.out _ _ S2.out (fun _ => ?_)
  clear hK K
  refine wpAnyH_take (i := 8) (v := .int .i64 bv) rfl (by kernel_rfl) (by kernel_rfl) (by kernel_rfl) (fun _ _ _ h => h) (Or.inl ⟨by rfl, fun w' hs => by have hc := BE.out; go_simp⟩) S2.out ?_
  change wpAnyH _ _ _ _ _ _ _ (Act.put _ (some 41) _) _
  simp only [Act.put, List.setIfInBounds_toArray, List.set_cons_zero, List.set_cons_succ]
  refine wpAnyH_take (i := 9) (v := .bool true) rfl (by kernel_rfl) (by kernel_rfl) (by kernel_rfl) (fun _ _ _ h => h) (Or.inl ⟨by rfl, fun w' hs => by have hc := BQ.out; go_simp⟩) S2.out ?_
  change wpAnyH _ _ _ _ _ _ _ (Act.put _ (some 42) _) _
  simp only [Act.put, List.setIfInBounds_toArray, List.set_cons_zero, List.set_cons_succ]
  refine wpAnyH_done (by kernel_rfl) ?_ _
  go_wp2_with fail
  exact bodyPost_ret (results_none rfl _ _ _) rfl ⟨rfl, _, _, R2.out, B2.out⟩
set_option maxRecDepth 20000 in
set_option maxHeartbeats 8000000 in
theorem zs_run {w : World} {B : Bp} {i o : Value} {zs : List Int} {H : Ht} {ri fa : Int} (R : Bs w B i o zs H ri fa) (sn : Sn H B.ps zs B.p) (hh : H.halted = false) (hd : dueV H < 0) (hw : H.waiting = false) :
    Calls Tryz.prog 26 #[.pointer (some ⟨B.q, 0, none⟩)] w fun e w' => e = .returned (.tuple #[]) ∧ ∃ i' o', Bs w' B i' o' (stepV H B.ps zs (-1) (-1)).2.1 (stepV H B.ps zs (-1) (-1)).1 (stepV H B.ps zs (-1) (-1)).2.2.2 (stepV H B.ps zs (-1) (-1)).2.2.1 ∧ Below B.base w w' := by
  obtain ⟨G, hG⟩ : ∃ G, waitV H = G := ⟨_, rfl⟩
  have eG : H = G := by rw [← hG]; cases H; simp_all [waitV]
  have gw : G.waiting = false := by rw [← eG]; exact hw
  have gp : G.pc = H.pc := by rw [← eG]
  obtain ⟨Z, hZ⟩ : ∃ Z, (stepV H B.ps zs (-1) (-1)) = Z := ⟨_, rfl⟩
  have E0 : Hid (Z = runV G B.ps zs) := by
    show _ = _
    rw [← hZ]
    unfold stepV runV
    rw [if_neg (by simp [hh]), if_neg (by simpa using hd), hG, if_neg (by simp [gw]), gp]
    rfl
  rw [hZ]
  clear hZ
  have SG : Hid (Sn G B.ps zs B.p) := by show Sn _ _ _ _; rw [← hG]; exact waitV_sn sn
  have PC : Hid (G.pc = H.pc) := gp
  have HH : Hid (H.halted = false) := hh
  have HW : Hid (H.waiting = false) := hw
  have EG : Hid (H = G) := eG
  obtain ⟨dv, hdv⟩ : ∃ v, dueV H = v := ⟨_, rfl⟩
  have HD : Hid (dueV H = dv) := hdv
  rw [hdv] at hd
  have hd0 : ¬ 0 ≤ dv := by omega
  clear hdv hd
  clear hh hw hG gw gp eG
  have d2 : w.cell? ⟨B.q, 2, none⟩ = some (.int .i64 ri) := R.v.cell 2 rfl
  have g2 := R.v.free 2
  have U1 := R.fld (G := H) (ri' := -1) (fa' := fa) 2 (.int .i64 (-1)) rfl rfl rfl rfl rfl
  have d12 : w.cell? ⟨B.q, 12, none⟩ = some (.int .i64 fa) := R.v.cell 12 rfl
  have g12 := R.v.free 12
  have U2 := U1.1.fld (G := H) (ri' := -1) (fa' := -1) 12 (.int .i64 (-1)) rfl rfl rfl rfl rfl
  have R0 : Hid (Bs ((w.setCell ⟨B.q, 2, none⟩ (.int .i64 (-1))).setCell ⟨B.q, 12, none⟩ (.int .i64 (-1))) B i o zs H (-1) (-1)) := U2.1
  have B0 : Hid (Below B.base w ((w.setCell ⟨B.q, 2, none⟩ (.int .i64 (-1))).setCell ⟨B.q, 12, none⟩ (.int .i64 (-1)))) := U1.2.trans U2.2
  have SN : Hid (Sn H B.ps zs B.p) := sn
  clear U1 U2 R sn
  go_enter Tryz.func26, Tryz.ntmps26
  go_upto_region 3 with fail
  clear d2 g2 d12 g12
  generalize (w.setCell ⟨B.q, 2, none⟩ (.int .i64 (-1))).setCell ⟨B.q, 12, none⟩ (.int .i64 (-1)) = x0 at *
  have d6 : x0.cell? ⟨B.q, 6, none⟩ = some (.bool H.halted) := R0.out.v.cell 6 rfl
  rw [HH.out] at d6
  go_upto_region 7 with (go_at_call 41; refine (z_due R0.out SN.out.hok).mono ?_; rintro e x1 ⟨rfl, b1⟩; rw [HD.out]; have R1 : Hid (Bs x1 B i o zs H (-1) (-1)) := R0.out.keep b1; have B1 : Hid (Below B.base w x1) := B0.out.trans (bless b1 R0.out.size); clear b1 d6)
  have c7w : x1.cell? ⟨B.q, 7, none⟩ = some (.bool false) := by rw [← HW.out]; exact R1.out.v.cell 7 rfl
  go_upto_region 10 with fail
  clear c7w
  have R3 : Hid (Bs x1 B i o zs G (-1) (-1)) := by show Bs _ _ _ _ _ _ _ _; rw [← EG.out]; exact R1.out
  have B3 := B1
  clear R1 B1 EG HD
  generalize x1 = x3 at *
  have c4 : x3.cell? ⟨B.q, 4, none⟩ = some (.int .i64 H.pc) := by rw [← PC.out]; exact R3.out.v.cell 4 rfl
  have PS := fun x => z_space R3.out SG.out x 4 rfl
  by_cases hz : plC G B.ps zs H.pc 4 = 0
  · have PZ : Hid (plC G B.ps zs H.pc 4 = 0) := hz
    obtain ⟨tn, htn, htp⟩ := pl_run (show Sn G B.ps zs B.p from SG.out) (x := H.pc) hz
    have PV : Hid (plV G B.ps zs H.pc 4 = (tn : Int)) := htn
    have Rt : Hid (tn < B.p * 8) := htp
    have hti : (tn : Int) < ((B.p * 8 : Nat) : Int) := by omega
    have FZ : Hid (fetZ G B.ps zs = zs.getD tn 0) := by show _ = _; unfold fetZ; rw [PC.out, PV.out]; rfl
    obtain ⟨z, hzz⟩ : ∃ z, zs.getD tn 0 = z := ⟨_, rfl⟩
    have ZZ : Hid (zs.getD tn 0 = z) := hzz
    have EZ : Hid (fetZ G B.ps zs = z) := FZ.out.trans hzz
    clear hz htn htp hzz FZ
    go_upto_region 13 with (go_at_call 44; refine (PS _).mono ?_; rintro e x5 ⟨rfl, b5⟩; rw [PZ.out, PV.out]; have R5 : Hid (Bs x5 B i o zs G (-1) (-1)) := R3.out.keep b5; have B5 : Hid (Below B.base w x5) := B3.out.trans (bless b5 R3.out.size); clear b5 c4 PS)
    have c1 : x5.cell? ⟨B.q, 1, none⟩ = some (.slice (some ⟨B.gm, 0, none⟩) (B.p * 8) B.mc) := R5.out.v.cell 1 rfl
    have ct : x5.cell? ⟨B.gm, tn, none⟩ = some (.int .i64 z) := by rw [← ZZ.out]; exact R5.out.hm.cell R5.out.hm.len tn Rt.out
    by_cases hf : decF z = 0
    · have DY := fun w => z_decYes z hf w
      have HF : Hid (decF z = 0) := hf
      have FP : Hid (_ = _) := fet_parts hf
      clear hf
      obtain ⟨d, hd1⟩ : ∃ d, (z / 1048576 % 16).toNat = d := ⟨_, rfl⟩
      obtain ⟨a, ha1⟩ : ∃ a, (z / 65536 % 16).toNat = a := ⟨_, rfl⟩
      obtain ⟨op, ho1⟩ : ∃ op, z / 16777216 = op := ⟨_, rfl⟩
      obtain ⟨im, hi1⟩ : ∃ im, z % 65536 = im := ⟨_, rfl⟩
      have ID : Hid ((z / 1048576 % 16).toNat = d ∧ (z / 65536 % 16).toNat = a ∧ z / 16777216 = op ∧ z % 65536 = im) := ⟨hd1, ha1, ho1, hi1⟩
      rw [hd1, ha1, ho1, hi1] at FP
      rw [hd1, ha1, ho1, hi1] at DY
      clear hd1 ha1 ho1 hi1
      go_upto_region 14 with (go_at_call 45; refine (DY _).mono ?_; rintro e x6 ⟨rfl, b6⟩; have R6 : Hid (Bs x6 B i o zs G (-1) (-1)) := R5.out.keep b6; have B6 : Hid (Below B.base w x6) := B5.out.trans (bless b6 R5.out.size); clear b6 c1 ct DY)
      have VV : Hid (_ ∧ _) := ins_var x6 (.int .i64 op) (.int .i64 (d : Int)) (.int .i64 (a : Int)) (.int .i64 im)
      generalize x6.alloc (.cells #[.int .i64 op, .int .i64 (d : Int), .int .i64 (a : Int), .int .i64 im] 81) = x7 at *
      have R7 : Hid (Bs x7 B i o zs G (-1) (-1)) := R6.out.keep VV.out.2
      have B7 : Hid (Below B.base w x7) := B6.out.trans (bless VV.out.2 R6.out.size)
      have n0 := VV.out.1.cell 0 rfl
      have n1 := VV.out.1.cell 1 rfl
      have n2 := VV.out.1.cell 2 rfl
      have n3 := VV.out.1.cell 3 rfl
      go_wp2_with fail
      refine (z_do R7.out SG.out op d a im FP.out).mono ?_
      intro e x8 hzp
      have SD := doV_sn SG.out (-1) op d a im FP.out
      have ER : Hid (Z = (match doV G B.ps zs (-1) op d a im with
        | ⟨some (c, t), _, G, ys, rj⟩ => (trapV G c t, ys, c, rj)
        | ⟨none, n, G, ys, rj⟩ => ({ G with pc := n, done := min (G.done + 1) 1000000000 }, ys, -1, rj))) := by
        show _ = _
        rw [E0.out]
        unfold runV
        rw [PC.out, if_neg (by simp [PZ.out]), EZ.out, if_neg (by simp [HF.out]), ID.out.1, ID.out.2.1, ID.out.2.2.1, ID.out.2.2.2]
      generalize doV G B.ps zs (-1) op d a im = D at *
      obtain ⟨t, nx, G2, ys, rj⟩ := D
      clear n0 n1 n2 n3
      cases t with
      | none =>
        obtain ⟨rfl, i8, o8, r8, b8⟩ := hzp
        have R8 : Hid (Bs x8 B i8 o8 ys { G2 with pc := nx } rj (-1)) := r8
        have B8 : Hid (Below B.base w x8) := B7.out.trans b8
        have DB : 0 ≤ G2.done ∧ G2.done ≤ 1000000000 := ⟨SD.hok.d0, SD.hok.d9⟩
        clear r8 b8 SD
        have d9 : x8.cell? ⟨B.q, 9, none⟩ = some (.int .i64 G2.done) := R8.out.v.cell 9 rfl
        have f9 := R8.out.v.free 9
        have MN : Hid ((if 1000000000 < G2.done + 1 then 1000000000 else G2.done + 1) = min (G2.done + 1) 1000000000) := by show _ = _; split <;> omega
        go_wp2_with (go_at_call 47; refine (z_min _ _ _).mono ?_; rintro e y ⟨rfl, hy⟩; rw [hy]; clear hy y; rw [MN.out])
        go_end0
        have U := R8.out.fld (G := { G2 with pc := nx, done := min (G2.done + 1) 1000000000 }) (ri' := rj) (fa' := -1) 9 (.int .i64 (min (G2.done + 1) 1000000000)) rfl rfl rfl rfl rfl
        exact ⟨rfl, _, _, by rw [ER.out]; exact U.1, B8.out.trans U.2⟩
      | some ct =>
        obtain ⟨c, t⟩ := ct
        obtain ⟨rfl, i8, o8, r8, b8⟩ := hzp
        have R8 : Hid (Bs x8 B i8 o8 ys (trapV G2 c t) rj c) := r8
        have B8 : Hid (Below B.base w x8) := B7.out.trans b8
        clear r8 b8 SD
        go_wp2_with fail
        go_end0
        exact ⟨rfl, _, _, by rw [ER.out]; exact R8.out, B8.out⟩
    · obtain ⟨y0, y1, y2, y3, DN⟩ := z_decNo z hf
      have HF : Hid (¬ decF z = 0) := hf
      clear hf
      go_upto_region 14 with (go_at_call 45; refine (DN _).mono ?_; rintro e x6 ⟨rfl, b6⟩; have R6 : Hid (Bs x6 B i o zs G (-1) (-1)) := R5.out.keep b6; have B6 : Hid (Below B.base w x6) := B5.out.trans (bless b6 R5.out.size); clear b6 c1 ct DN)
      have VV : Hid (_ ∧ _) := ins_var x6 (.int .i64 y0) (.int .i64 y1) (.int .i64 y2) (.int .i64 y3)
      generalize x6.alloc (.cells #[.int .i64 y0, .int .i64 y1, .int .i64 y2, .int .i64 y3] 81) = x7 at *
      have R7 : Hid (Bs x7 B i o zs G (-1) (-1)) := R6.out.keep VV.out.2
      have B7 : Hid (Below B.base w x7) := B6.out.trans (bless VV.out.2 R6.out.size)
      have c1 : x7.cell? ⟨B.q, 1, none⟩ = some (.slice (some ⟨B.gm, 0, none⟩) (B.p * 8) B.mc) := R7.out.v.cell 1 rfl
      have ct : x7.cell? ⟨B.gm, tn, none⟩ = some (.int .i64 z) := by rw [← ZZ.out]; exact R7.out.hm.cell R7.out.hm.len tn Rt.out
      go_wp2_with fail
      refine (z_fall R7.out SG.out.hok 1 z).mono ?_
      rintro e x8 ⟨rfl, r8, b8⟩
      have R8 : Hid (Bs x8 B i o zs (trapV G 1 z) (-1) 1 ∧ Below B.base w x8) := ⟨r8, B7.out.trans b8⟩
      clear r8 b8 c1 ct
      have ER : Hid (Z = (trapV G 1 z, zs, 1, -1)) := by
        show _ = _
        rw [E0.out]
        unfold runV
        rw [PC.out, if_neg (by simp [PZ.out]), EZ.out, if_pos HF.out]
      go_wp2_with fail
      exact bodyPost_ret (results_none rfl _ _ _) rfl ⟨rfl, _, _, by rw [ER.out]; exact R8.out.1, R8.out.2⟩
  · obtain ⟨pk, hpk⟩ : ∃ v, plC G B.ps zs H.pc 4 = v := ⟨_, rfl⟩
    obtain ⟨pv2, hpv⟩ : ∃ v, plV G B.ps zs H.pc 4 = v := ⟨_, rfl⟩
    have PK : Hid (plC G B.ps zs H.pc 4 = pk) := hpk
    have PV : Hid (plV G B.ps zs H.pc 4 = pv2) := hpv
    have PZ : Hid (¬ plC G B.ps zs H.pc 4 = 0) := hz
    rw [hpk] at hz
    have hk : (pk != 0) = true := by simpa using hz
    clear hz hpk hpv
    go_upto_region 12 with (go_at_call 44; refine (PS _).mono ?_; rintro e x5 ⟨rfl, b5⟩; rw [PK.out, PV.out]; have R5 : Hid (Bs x5 B i o zs G (-1) (-1)) := R3.out.keep b5; have B5 : Hid (Below B.base w x5) := B3.out.trans (bless b5 R3.out.size); clear b5 c4 PS)
    have c4 : x5.cell? ⟨B.q, 4, none⟩ = some (.int .i64 H.pc) := by rw [← PC.out]; exact R5.out.v.cell 4 rfl
    go_wp2_with fail
    refine (z_fall R5.out SG.out.hok 2 H.pc).mono ?_
    rintro e x8 ⟨rfl, r8, b8⟩
    have R8 : Hid (Bs x8 B i o zs (trapV G 2 H.pc) (-1) 2 ∧ Below B.base w x8) := ⟨r8, B5.out.trans b8⟩
    clear r8 b8 c4
    have ER : Hid (Z = (trapV G 2 H.pc, zs, 2, -1)) := by
      show _ = _
      rw [E0.out]
      unfold runV
      rw [PC.out, if_pos PZ.out]
    go_wp2_with fail
    exact bodyPost_ret (results_none rfl _ _ _) rfl ⟨rfl, _, _, by rw [ER.out]; exact R8.out.1, R8.out.2⟩
set_option maxRecDepth 20000 in
set_option maxHeartbeats 8000000 in
theorem zs_wake {w : World} {B : Bp} {i o : Value} {zs : List Int} {H : Ht} {ri fa : Int} (R : Bs w B i o zs H ri fa) (sn : Sn H B.ps zs B.p) (hh : H.halted = false) (hd : dueV H < 0) (hw : H.waiting = true) (hb0 : ¬ bothV H = 0) :
    Calls Tryz.prog 26 #[.pointer (some ⟨B.q, 0, none⟩)] w fun e w' => e = .returned (.tuple #[]) ∧ ∃ i' o', Bs w' B i' o' (stepV H B.ps zs (-1) (-1)).2.1 (stepV H B.ps zs (-1) (-1)).1 (stepV H B.ps zs (-1) (-1)).2.2.2 (stepV H B.ps zs (-1) (-1)).2.2.1 ∧ Below B.base w w' := by
  obtain ⟨G, hG⟩ : ∃ G, waitV H = G := ⟨_, rfl⟩
  have eG : { H with waiting := false } = G := by rw [← hG]; cases H; simp_all [waitV]
  have gw : G.waiting = false := by rw [← eG]
  have gp : G.pc = H.pc := by rw [← eG]
  obtain ⟨Z, hZ⟩ : ∃ Z, (stepV H B.ps zs (-1) (-1)) = Z := ⟨_, rfl⟩
  have E0 : Hid (Z = runV G B.ps zs) := by
    show _ = _
    rw [← hZ]
    unfold stepV runV
    rw [if_neg (by simp [hh]), if_neg (by simpa using hd), hG, if_neg (by simp [gw]), gp]
    rfl
  rw [hZ]
  clear hZ
  have SG : Hid (Sn G B.ps zs B.p) := by show Sn _ _ _ _; rw [← hG]; exact waitV_sn sn
  have PC : Hid (G.pc = H.pc) := gp
  have HH : Hid (H.halted = false) := hh
  have HW : Hid (H.waiting = true) := hw
  have EG : Hid ({ H with waiting := false } = G) := eG
  obtain ⟨dv, hdv⟩ : ∃ v, dueV H = v := ⟨_, rfl⟩
  have HD : Hid (dueV H = dv) := hdv
  rw [hdv] at hd
  have hd0 : ¬ 0 ≤ dv := by omega
  clear hdv hd
  have be := both_eq H (all_at sn.hok.cw 7).1 (all_at sn.hok.cw 7).2
  obtain ⟨g7, hg7⟩ : ∃ g, gt H.csr 7 = g := ⟨_, rfl⟩
  obtain ⟨pv, hp⟩ : ∃ g, pendV H = g := ⟨_, rfl⟩
  obtain ⟨bv, hb⟩ : ∃ g, bothV H = g := ⟨_, rfl⟩
  have HG7 : Hid (gt H.csr 7 = g7) := hg7
  have HPV : Hid (pendV H = pv) := hp
  rw [hg7, hp, hb] at be
  have BE : Hid (bits BinOp.and IntKind.i64 pv g7 = bv) := be
  rw [hb] at hb0
  have BQ : Hid ((bv == 0) = false) := by show _ = _; simpa using hb0
  clear hg7 hp hb be hb0
  clear hh hw hG gw gp eG
  have d2 : w.cell? ⟨B.q, 2, none⟩ = some (.int .i64 ri) := R.v.cell 2 rfl
  have g2 := R.v.free 2
  have U1 := R.fld (G := H) (ri' := -1) (fa' := fa) 2 (.int .i64 (-1)) rfl rfl rfl rfl rfl
  have d12 : w.cell? ⟨B.q, 12, none⟩ = some (.int .i64 fa) := R.v.cell 12 rfl
  have g12 := R.v.free 12
  have U2 := U1.1.fld (G := H) (ri' := -1) (fa' := -1) 12 (.int .i64 (-1)) rfl rfl rfl rfl rfl
  have R0 : Hid (Bs ((w.setCell ⟨B.q, 2, none⟩ (.int .i64 (-1))).setCell ⟨B.q, 12, none⟩ (.int .i64 (-1))) B i o zs H (-1) (-1)) := U2.1
  have B0 : Hid (Below B.base w ((w.setCell ⟨B.q, 2, none⟩ (.int .i64 (-1))).setCell ⟨B.q, 12, none⟩ (.int .i64 (-1)))) := U1.2.trans U2.2
  have SN : Hid (Sn H B.ps zs B.p) := sn
  clear U1 U2 R sn
  go_enter Tryz.func26, Tryz.ntmps26
  go_upto_region 3 with fail
  clear d2 g2 d12 g12
  generalize (w.setCell ⟨B.q, 2, none⟩ (.int .i64 (-1))).setCell ⟨B.q, 12, none⟩ (.int .i64 (-1)) = x0 at *
  have d6 : x0.cell? ⟨B.q, 6, none⟩ = some (.bool H.halted) := R0.out.v.cell 6 rfl
  rw [HH.out] at d6
  go_upto_region 7 with (go_at_call 41; refine (z_due R0.out SN.out.hok).mono ?_; rintro e x1 ⟨rfl, b1⟩; rw [HD.out]; have R1 : Hid (Bs x1 B i o zs H (-1) (-1)) := R0.out.keep b1; have B1 : Hid (Below B.base w x1) := B0.out.trans (bless b1 R0.out.size); clear b1 d6)
  have c7w : x1.cell? ⟨B.q, 7, none⟩ = some (.bool true) := by rw [← HW.out]; exact R1.out.v.cell 7 rfl
  go_upto_region 8 with fail
  clear c7w
  have S1 : Hid (x1.drew.cell? ⟨B.q, 5, none⟩ = some (.slice (some ⟨B.cg, 0, none⟩) 11 B.ck) ∧ x1.drew.cell? ⟨B.cg, 7, none⟩ = some (.int .i64 g7)) := ⟨R1.out.v.cell 5 rfl, by rw [← HG7.out]; exact R1.out.hc.cell R1.out.hc.len 7 (by decide)⟩
  replace R1 := hid_dr R1
  replace B1 := hid_bd B1
  refine wp_region_held (S := fun w' => w'.cell? ⟨B.q, 5, none⟩ = some (.slice (some ⟨B.cg, 0, none⟩) 11 B.ck) ∧ w'.cell? ⟨B.cg, 7, none⟩ = some (.int .i64 g7)) (by kernel_rfl) ?_
  change wpAnyH _ _ _ _ _ _ _ _ (World.drew _)
  generalize x1.drew = x1' at *
  refine wpAnyH_take (i := 0) (v := .pointer (some ⟨B.q, 3, none⟩)) rfl (by kernel_rfl) (by kernel_rfl) (by kernel_rfl) (fun _ _ _ h => h) (Or.inl ⟨by rfl, fun w' hs => by go_simp⟩) S1.out ?_
  change wpAnyH _ _ _ _ _ _ _ (Act.put _ (some 33) _) _
  simp only [Act.put, List.setIfInBounds_toArray, List.set_cons_zero, List.set_cons_succ]
  refine wpAnyH_take (i := 2) (v := .pointer (some ⟨B.q, 3, none⟩)) rfl (by kernel_rfl) (by kernel_rfl) (by kernel_rfl) (fun _ _ _ h => h) (Or.inl ⟨by rfl, fun w' hs => by go_simp⟩) S1.out ?_
  change wpAnyH _ _ _ _ _ _ _ (Act.put _ (some 35) _) _
  simp only [Act.put, List.setIfInBounds_toArray, List.set_cons_zero, List.set_cons_succ]
  refine wpAnyH_take (i := 3) (v := .pointer (some ⟨B.q, 3, none⟩)) rfl (by kernel_rfl) (by kernel_rfl) (by kernel_rfl) (fun _ _ _ h => h) (Or.inl ⟨by rfl, fun w' hs => by go_simp⟩) S1.out ?_
  change wpAnyH _ _ _ _ _ _ _ (Act.put _ (some 36) _) _
  simp only [Act.put, List.setIfInBounds_toArray, List.set_cons_zero, List.set_cons_succ]
  refine wpAnyH_take (i := 4) (v := .pointer (some ⟨B.q, 5, none⟩)) rfl (by kernel_rfl) (by kernel_rfl) (by kernel_rfl) (fun _ _ _ h => h) (Or.inl ⟨by rfl, fun w' hs => by go_simp⟩) S1.out ?_
  change wpAnyH _ _ _ _ _ _ _ (Act.put _ (some 37) _) _
  simp only [Act.put, List.setIfInBounds_toArray, List.set_cons_zero, List.set_cons_succ]
  refine wpAnyH_take (i := 5) (v := .slice (some ⟨B.cg, 0, none⟩) 11 B.ck) rfl (by kernel_rfl) (by kernel_rfl) (by kernel_rfl) (fun _ _ _ h => h) (Or.inl ⟨by rfl, fun w' hs => by have hc := hs.1; go_simp⟩) S1.out ?_
  change wpAnyH _ _ _ _ _ _ _ (Act.put _ (some 38) _) _
  simp only [Act.put, List.setIfInBounds_toArray, List.set_cons_zero, List.set_cons_succ]
  refine wpAnyH_take (i := 6) (v := .pointer (some ⟨B.cg, 7, none⟩)) rfl (by kernel_rfl) (by kernel_rfl) (by kernel_rfl) (fun _ _ _ h => h) (Or.inl ⟨by rfl, fun w' hs => by go_simp⟩) S1.out ?_
  change wpAnyH _ _ _ _ _ _ _ (Act.put _ (some 39) _) _
  simp only [Act.put, List.setIfInBounds_toArray, List.set_cons_zero, List.set_cons_succ]
  refine wpAnyH_take (i := 7) (v := .int .i64 g7) rfl (by kernel_rfl) (by kernel_rfl) (by kernel_rfl) (fun _ _ _ h => h) (Or.inl ⟨by rfl, fun w' hs => by have hc := hs.2; go_simp⟩) S1.out ?_
  change wpAnyH _ _ _ _ _ _ _ (Act.put _ (some 40) _) _
  simp only [Act.put, List.setIfInBounds_toArray, List.set_cons_zero, List.set_cons_succ]
  refine wpAnyH_ready (rs := [1]) (by kernel_rfl) (by simp) ?_
  refine AllReadyH.cons rfl (fun K hK => ?_) AllReadyH.nil
  rw [if_pos (by rfl)]
  go_simp
  refine (z_pending R1.out).mono ?_
  rw [HPV.out]
  rintro e x2 ⟨rfl, b2⟩
  have R2 : Hid (Bs x2 B i o zs H (-1) (-1)) := R1.out.keep b2
  have B2 : Hid (Below B.base w x2) := B1.out.trans (bless b2 R1.out.size)
  have S2 : Hid (x2.cell? ⟨B.q, 5, none⟩ = some (.slice (some ⟨B.cg, 0, none⟩) 11 B.ck) ∧ x2.cell? ⟨B.cg, 7, none⟩ = some (.int .i64 g7)) := ⟨R2.out.v.cell 5 rfl, by rw [← HG7.out]; exact R2.out.hc.cell R2.out.hc.len 7 (by decide)⟩
  clear b2
  refine hK.out _ _ S2.out (fun _ => ?_)
  clear hK K
  refine wpAnyH_take (i := 8) (v := .int .i64 bv) rfl (by kernel_rfl) (by kernel_rfl) (by kernel_rfl) (fun _ _ _ h => h) (Or.inl ⟨by rfl, fun w' hs => by have hc := BE.out; go_simp⟩) S2.out ?_
  change wpAnyH _ _ _ _ _ _ _ (Act.put _ (some 41) _) _
  simp only [Act.put, List.setIfInBounds_toArray, List.set_cons_zero, List.set_cons_succ]
  refine wpAnyH_take (i := 9) (v := .bool false) rfl (by kernel_rfl) (by kernel_rfl) (by kernel_rfl) (fun _ _ _ h => h) (Or.inl ⟨by rfl, fun w' hs => by have hc := BQ.out; go_simp⟩) S2.out ?_
  change wpAnyH _ _ _ _ _ _ _ (Act.put _ (some 42) _) _
  simp only [Act.put, List.setIfInBounds_toArray, List.set_cons_zero, List.set_cons_succ]
  refine wpAnyH_done (by kernel_rfl) ?_ _
  have d7 := R2.out.v.cell 7 rfl
  have f7 := R2.out.v.free 7
  have U : Hid (_ ∧ _) := R2.out.fld (G := { H with waiting := false }) (ri' := -1) (fa' := -1) 7 (.bool false) rfl rfl rfl rfl rfl
  go_upto_region 10 with fail
  have R3 : Hid (Bs (x2.setCell ⟨B.q, 7, none⟩ (.bool false)) B i o zs G (-1) (-1)) := by show Bs _ _ _ _ _ _ _ _; rw [← EG.out]; exact U.out.1
  have B3 : Hid (Below B.base w (x2.setCell ⟨B.q, 7, none⟩ (.bool false))) := B2.out.trans U.out.2
  clear d7 f7 U R2 B2 S2 EG HD S1 R1 B1 BE BQ HG7 HPV R0 B0
  generalize x2.setCell ⟨B.q, 7, none⟩ (.bool false) = x3 at *
  have c4 : x3.cell? ⟨B.q, 4, none⟩ = some (.int .i64 H.pc) := by rw [← PC.out]; exact R3.out.v.cell 4 rfl
  have PS := fun x => z_space R3.out SG.out x 4 rfl
  by_cases hz : plC G B.ps zs H.pc 4 = 0
  · have PZ : Hid (plC G B.ps zs H.pc 4 = 0) := hz
    obtain ⟨tn, htn, htp⟩ := pl_run (show Sn G B.ps zs B.p from SG.out) (x := H.pc) hz
    have PV : Hid (plV G B.ps zs H.pc 4 = (tn : Int)) := htn
    have Rt : Hid (tn < B.p * 8) := htp
    have hti : (tn : Int) < ((B.p * 8 : Nat) : Int) := by omega
    have FZ : Hid (fetZ G B.ps zs = zs.getD tn 0) := by show _ = _; unfold fetZ; rw [PC.out, PV.out]; rfl
    obtain ⟨z, hzz⟩ : ∃ z, zs.getD tn 0 = z := ⟨_, rfl⟩
    have ZZ : Hid (zs.getD tn 0 = z) := hzz
    have EZ : Hid (fetZ G B.ps zs = z) := FZ.out.trans hzz
    clear hz htn htp hzz FZ
    go_upto_region 13 with (go_at_call 44; refine (PS _).mono ?_; rintro e x5 ⟨rfl, b5⟩; rw [PZ.out, PV.out]; have R5 : Hid (Bs x5 B i o zs G (-1) (-1)) := R3.out.keep b5; have B5 : Hid (Below B.base w x5) := B3.out.trans (bless b5 R3.out.size); clear b5 c4 PS)
    have c1 : x5.cell? ⟨B.q, 1, none⟩ = some (.slice (some ⟨B.gm, 0, none⟩) (B.p * 8) B.mc) := R5.out.v.cell 1 rfl
    have ct : x5.cell? ⟨B.gm, tn, none⟩ = some (.int .i64 z) := by rw [← ZZ.out]; exact R5.out.hm.cell R5.out.hm.len tn Rt.out
    by_cases hf : decF z = 0
    · have DY := fun w => z_decYes z hf w
      have HF : Hid (decF z = 0) := hf
      have FP : Hid (_ = _) := fet_parts hf
      clear hf
      obtain ⟨d, hd1⟩ : ∃ d, (z / 1048576 % 16).toNat = d := ⟨_, rfl⟩
      obtain ⟨a, ha1⟩ : ∃ a, (z / 65536 % 16).toNat = a := ⟨_, rfl⟩
      obtain ⟨op, ho1⟩ : ∃ op, z / 16777216 = op := ⟨_, rfl⟩
      obtain ⟨im, hi1⟩ : ∃ im, z % 65536 = im := ⟨_, rfl⟩
      have ID : Hid ((z / 1048576 % 16).toNat = d ∧ (z / 65536 % 16).toNat = a ∧ z / 16777216 = op ∧ z % 65536 = im) := ⟨hd1, ha1, ho1, hi1⟩
      rw [hd1, ha1, ho1, hi1] at FP
      rw [hd1, ha1, ho1, hi1] at DY
      clear hd1 ha1 ho1 hi1
      go_upto_region 14 with (go_at_call 45; refine (DY _).mono ?_; rintro e x6 ⟨rfl, b6⟩; have R6 : Hid (Bs x6 B i o zs G (-1) (-1)) := R5.out.keep b6; have B6 : Hid (Below B.base w x6) := B5.out.trans (bless b6 R5.out.size); clear b6 c1 ct DY)
      have VV : Hid (_ ∧ _) := ins_var x6 (.int .i64 op) (.int .i64 (d : Int)) (.int .i64 (a : Int)) (.int .i64 im)
      generalize x6.alloc (.cells #[.int .i64 op, .int .i64 (d : Int), .int .i64 (a : Int), .int .i64 im] 81) = x7 at *
      have R7 : Hid (Bs x7 B i o zs G (-1) (-1)) := R6.out.keep VV.out.2
      have B7 : Hid (Below B.base w x7) := B6.out.trans (bless VV.out.2 R6.out.size)
      have n0 := VV.out.1.cell 0 rfl
      have n1 := VV.out.1.cell 1 rfl
      have n2 := VV.out.1.cell 2 rfl
      have n3 := VV.out.1.cell 3 rfl
      go_wp2_with fail
      refine (z_do R7.out SG.out op d a im FP.out).mono ?_
      intro e x8 hzp
      have SD := doV_sn SG.out (-1) op d a im FP.out
      have ER : Hid (Z = (match doV G B.ps zs (-1) op d a im with
        | ⟨some (c, t), _, G, ys, rj⟩ => (trapV G c t, ys, c, rj)
        | ⟨none, n, G, ys, rj⟩ => ({ G with pc := n, done := min (G.done + 1) 1000000000 }, ys, -1, rj))) := by
        show _ = _
        rw [E0.out]
        unfold runV
        rw [PC.out, if_neg (by simp [PZ.out]), EZ.out, if_neg (by simp [HF.out]), ID.out.1, ID.out.2.1, ID.out.2.2.1, ID.out.2.2.2]
      generalize doV G B.ps zs (-1) op d a im = D at *
      obtain ⟨t, nx, G2, ys, rj⟩ := D
      clear n0 n1 n2 n3
      cases t with
      | none =>
        obtain ⟨rfl, i8, o8, r8, b8⟩ := hzp
        have R8 : Hid (Bs x8 B i8 o8 ys { G2 with pc := nx } rj (-1)) := r8
        have B8 : Hid (Below B.base w x8) := B7.out.trans b8
        have DB : 0 ≤ G2.done ∧ G2.done ≤ 1000000000 := ⟨SD.hok.d0, SD.hok.d9⟩
        clear r8 b8 SD
        have d9 : x8.cell? ⟨B.q, 9, none⟩ = some (.int .i64 G2.done) := R8.out.v.cell 9 rfl
        have f9 := R8.out.v.free 9
        have MN : Hid ((if 1000000000 < G2.done + 1 then 1000000000 else G2.done + 1) = min (G2.done + 1) 1000000000) := by show _ = _; split <;> omega
        go_wp2_with (go_at_call 47; refine (z_min _ _ _).mono ?_; rintro e y ⟨rfl, hy⟩; rw [hy]; clear hy y; rw [MN.out])
        go_end0
        have U := R8.out.fld (G := { G2 with pc := nx, done := min (G2.done + 1) 1000000000 }) (ri' := rj) (fa' := -1) 9 (.int .i64 (min (G2.done + 1) 1000000000)) rfl rfl rfl rfl rfl
        exact ⟨rfl, _, _, by rw [ER.out]; exact U.1, B8.out.trans U.2⟩
      | some ct =>
        obtain ⟨c, t⟩ := ct
        obtain ⟨rfl, i8, o8, r8, b8⟩ := hzp
        have R8 : Hid (Bs x8 B i8 o8 ys (trapV G2 c t) rj c) := r8
        have B8 : Hid (Below B.base w x8) := B7.out.trans b8
        clear r8 b8 SD
        go_wp2_with fail
        go_end0
        exact ⟨rfl, _, _, by rw [ER.out]; exact R8.out, B8.out⟩
    · obtain ⟨y0, y1, y2, y3, DN⟩ := z_decNo z hf
      have HF : Hid (¬ decF z = 0) := hf
      clear hf
      go_upto_region 14 with (go_at_call 45; refine (DN _).mono ?_; rintro e x6 ⟨rfl, b6⟩; have R6 : Hid (Bs x6 B i o zs G (-1) (-1)) := R5.out.keep b6; have B6 : Hid (Below B.base w x6) := B5.out.trans (bless b6 R5.out.size); clear b6 c1 ct DN)
      have VV : Hid (_ ∧ _) := ins_var x6 (.int .i64 y0) (.int .i64 y1) (.int .i64 y2) (.int .i64 y3)
      generalize x6.alloc (.cells #[.int .i64 y0, .int .i64 y1, .int .i64 y2, .int .i64 y3] 81) = x7 at *
      have R7 : Hid (Bs x7 B i o zs G (-1) (-1)) := R6.out.keep VV.out.2
      have B7 : Hid (Below B.base w x7) := B6.out.trans (bless VV.out.2 R6.out.size)
      have c1 : x7.cell? ⟨B.q, 1, none⟩ = some (.slice (some ⟨B.gm, 0, none⟩) (B.p * 8) B.mc) := R7.out.v.cell 1 rfl
      have ct : x7.cell? ⟨B.gm, tn, none⟩ = some (.int .i64 z) := by rw [← ZZ.out]; exact R7.out.hm.cell R7.out.hm.len tn Rt.out
      go_wp2_with fail
      refine (z_fall R7.out SG.out.hok 1 z).mono ?_
      rintro e x8 ⟨rfl, r8, b8⟩
      have R8 : Hid (Bs x8 B i o zs (trapV G 1 z) (-1) 1 ∧ Below B.base w x8) := ⟨r8, B7.out.trans b8⟩
      clear r8 b8 c1 ct
      have ER : Hid (Z = (trapV G 1 z, zs, 1, -1)) := by
        show _ = _
        rw [E0.out]
        unfold runV
        rw [PC.out, if_neg (by simp [PZ.out]), EZ.out, if_pos HF.out]
      go_wp2_with fail
      exact bodyPost_ret (results_none rfl _ _ _) rfl ⟨rfl, _, _, by rw [ER.out]; exact R8.out.1, R8.out.2⟩
  · obtain ⟨pk, hpk⟩ : ∃ v, plC G B.ps zs H.pc 4 = v := ⟨_, rfl⟩
    obtain ⟨pv2, hpv⟩ : ∃ v, plV G B.ps zs H.pc 4 = v := ⟨_, rfl⟩
    have PK : Hid (plC G B.ps zs H.pc 4 = pk) := hpk
    have PV : Hid (plV G B.ps zs H.pc 4 = pv2) := hpv
    have PZ : Hid (¬ plC G B.ps zs H.pc 4 = 0) := hz
    rw [hpk] at hz
    have hk : (pk != 0) = true := by simpa using hz
    clear hz hpk hpv
    go_upto_region 12 with (go_at_call 44; refine (PS _).mono ?_; rintro e x5 ⟨rfl, b5⟩; rw [PK.out, PV.out]; have R5 : Hid (Bs x5 B i o zs G (-1) (-1)) := R3.out.keep b5; have B5 : Hid (Below B.base w x5) := B3.out.trans (bless b5 R3.out.size); clear b5 c4 PS)
    have c4 : x5.cell? ⟨B.q, 4, none⟩ = some (.int .i64 H.pc) := by rw [← PC.out]; exact R5.out.v.cell 4 rfl
    go_wp2_with fail
    refine (z_fall R5.out SG.out.hok 2 H.pc).mono ?_
    rintro e x8 ⟨rfl, r8, b8⟩
    have R8 : Hid (Bs x8 B i o zs (trapV G 2 H.pc) (-1) 2 ∧ Below B.base w x8) := ⟨r8, B5.out.trans b8⟩
    clear r8 b8 c4
    have ER : Hid (Z = (trapV G 2 H.pc, zs, 2, -1)) := by
      show _ = _
      rw [E0.out]
      unfold runV
      rw [PC.out, if_pos PZ.out]
    go_wp2_with fail
    exact bodyPost_ret (results_none rfl _ _ _) rfl ⟨rfl, _, _, by rw [ER.out]; exact R8.out.1, R8.out.2⟩
theorem z_step {w : World} {B : Bp} {i o : Value} {zs : List Int} {H : Ht} {ri fa : Int} (R : Bs w B i o zs H ri fa) (sn : Sn H B.ps zs B.p) :
    Calls Tryz.prog 26 #[.pointer (some ⟨B.q, 0, none⟩)] w fun e w' => e = .returned (.tuple #[]) ∧ ∃ i' o', Bs w' B i' o' (stepV H B.ps zs (-1) (-1)).2.1 (stepV H B.ps zs (-1) (-1)).1 (stepV H B.ps zs (-1) (-1)).2.2.2 (stepV H B.ps zs (-1) (-1)).2.2.1 ∧ Below B.base w w' := by
  cases hh : H.halted with
  | true => exact zs_halts R sn hh
  | false =>
    by_cases hd : dueV H < 0
    · cases hw : H.waiting with
      | false => exact zs_run R sn hh hd hw
      | true =>
        by_cases hb : bothV H = 0
        · exact zs_waits R sn hh hd hw hb
        · exact zs_wake R sn hh hd hw hb
    · exact zs_due R sn hh hd
end Go.Proofs.YtcbcbgomafeccaaGreatDoor
namespace Go.Proofs.YtcbcbgomafeccaaGreatDoor
open Go.RowKit
set_option linter.unusedVariables false

theorem apt_noZ {a b : Value} {x : Nat} (h : Apt a b) (e : a.ownBlock = some x) (f : b.ownBlock = some x) : False := by
  rcases h with h | h
  · rw [h] at e; cases e
  · exact h (e.trans f.symm)
set_option maxRecDepth 20000 in
set_option maxHeartbeats 8000000 in
theorem z_new (r c i o : Value) (H : Ht) (pg pc : Nat) (ps : List (Int × Int)) (gm p mc : Nat) (zs : List Int) (b : Nat) (w : World) (h : Hm w b r c i o H) (hP : Prs 55 w b (.slice (some ⟨pg, 0, none⟩) 8 pc) ps) (hM : Nums w b (.slice (some ⟨gm, 0, none⟩) (p * 8) mc) zs) (sn : Sn H ps zs p) :
    Calls Tryz.prog 25 #[.agg #[r, .int .i64 H.pc, c, .bool H.halted, .bool H.waiting, .bool H.rung, .int .i64 H.done, i, o], .slice (some ⟨pg, 0, none⟩) 8 pc, .slice (some ⟨gm, 0, none⟩) (p * 8) mc] w fun e w' => ∃ (B : Bp) (i' o' : Value), e = .returned (.pointer (some ⟨B.q, 0, none⟩)) ∧ B.ps = ps ∧ B.p = p ∧ B.base = w.heap.size ∧ Bs w' B i' o' zs H (-1) (-1) ∧ Below w.heap.size w w' := by
  have HM : Hid (Hm w b r c i o H) := h
  have HP : Hid (Prs 55 w b (.slice (some ⟨pg, 0, none⟩) 8 pc) ps) := hP
  have HZ : Hid (Nums w b (.slice (some ⟨gm, 0, none⟩) (p * 8) mc) zs) := hM
  have SN : Hid (Sn H ps zs p) := sn
  have PL : Hid (pg < w.heap.size) := (hP.lt pg rfl).2
  obtain ⟨a0, k0, rfl, _⟩ := h.r.shape
  obtain ⟨a1, k1, rfl, _⟩ := h.c.shape
  obtain ⟨a2, k2, rfl, _⟩ := h.i.shape
  obtain ⟨a3, k3, rfl, _⟩ := h.o.shape
  clear h hP hM sn
  generalize hW : w.alloc (.cells #[.slice a0 H.regs.length k0, .int .i64 H.pc, .slice a1 H.csr.length k1, .bool H.halted, .bool H.waiting, .bool H.rung, .int .i64 H.done, .slice a2 H.inn.length k2, .slice a3 H.out.length k3] 28) = W
  have B0 : Hid (Below w.heap.size w W) := by show Below _ _ _; rw [← hW]; exact al (Below.refl _ _) _
  obtain ⟨s, hS⟩ : ∃ s, w.heap.size = s := ⟨_, rfl⟩
  have HS : Hid (w.heap.size = s) := hS
  have VA : Hid (Vb W s #[.slice a0 H.regs.length k0, .int .i64 H.pc, .slice a1 H.csr.length k1, .bool H.halted, .bool H.waiting, .bool H.rung, .int .i64 H.done, .slice a2 H.inn.length k2, .slice a3 H.out.length k3] 28) := by show Vb _ _ _ _; rw [← hW, ← hS]; exact Vb.new _ _ _
  go_enter Tryz.func25, Tryz.ntmps25
  go_upto_region 1 with fail
  clear hW hS
  have S0 : Hid (Vb W.drew s #[.slice a0 H.regs.length k0, .int .i64 H.pc, .slice a1 H.csr.length k1, .bool H.halted, .bool H.waiting, .bool H.rung, .int .i64 H.done, .slice a2 H.inn.length k2, .slice a3 H.out.length k3] 28) := VA.out
  have B1 : Hid (Below w.heap.size w W.drew) := B0.out.drew
  clear VA B0
  refine wp_region_held (S := fun w' => Vb w' s #[.slice a0 H.regs.length k0, .int .i64 H.pc, .slice a1 H.csr.length k1, .bool H.halted, .bool H.waiting, .bool H.rung, .int .i64 H.done, .slice a2 H.inn.length k2, .slice a3 H.out.length k3] 28) (by kernel_rfl) ?_
  change wpAnyH _ _ _ _ _ _ _ _ (World.drew _)
  generalize W.drew = x0 at *
  refine wpAnyH_take (i := 0) (v := .slice (some ⟨pg, 0, none⟩) 8 pc) rfl (by kernel_rfl) (by kernel_rfl) (by kernel_rfl) (fun _ _ _ h => h) (Or.inl ⟨by rfl, fun w' hs => by go_simp⟩) S0.out ?_
  change wpAnyH _ _ _ _ _ _ _ (Act.put _ (some 7) _) _
  simp only [Act.put, List.setIfInBounds_toArray, List.set_cons_zero, List.set_cons_succ]
  refine wpAnyH_take (i := 1) (v := .slice (some ⟨gm, 0, none⟩) (p * 8) mc) rfl (by kernel_rfl) (by kernel_rfl) (by kernel_rfl) (fun _ _ _ h => h) (Or.inl ⟨by rfl, fun w' hs => by go_simp⟩) S0.out ?_
  change wpAnyH _ _ _ _ _ _ _ (Act.put _ (some 8) _) _
  simp only [Act.put, List.setIfInBounds_toArray, List.set_cons_zero, List.set_cons_succ]
  refine wpAnyH_take (i := 3) (v := .agg #[.slice a0 H.regs.length k0, .int .i64 H.pc, .slice a1 H.csr.length k1, .bool H.halted, .bool H.waiting, .bool H.rung, .int .i64 H.done, .slice a2 H.inn.length k2, .slice a3 H.out.length k3]) rfl (by kernel_rfl) (by kernel_rfl) (by kernel_rfl) (fun _ _ _ h => h) (Or.inl ⟨by rfl, fun w' hs => by have y0 := hs.cell 0 rfl; have y1 := hs.cell 1 rfl; have y2 := hs.cell 2 rfl; have y3 := hs.cell 3 rfl; have y4 := hs.cell 4 rfl; have y5 := hs.cell 5 rfl; have y6 := hs.cell 6 rfl; have y7 := hs.cell 7 rfl; have y8 := hs.cell 8 rfl; go_simp⟩) S0.out ?_
  change wpAnyH _ _ _ _ _ _ _ (Act.put _ (some 10) _) _
  simp only [Act.put, List.setIfInBounds_toArray, List.set_cons_zero, List.set_cons_succ]
  refine wpAnyH_ready (rs := [2]) (by kernel_rfl) (by simp) ?_
  refine AllReadyH.cons rfl (fun K hK => ?_) AllReadyH.nil
  rw [if_pos (by rfl)]
  go_simp
  have CP := spec_copyZ gm mc zs b x0 (by rw [SN.out.zl]; exact HZ.out.keep B1.out) (by have := SN.out.zl; have := SN.out.p24; omega)
  rw [SN.out.zl] at CP
  refine CP.mono ?_
  clear CP
  rintro e x1 ⟨v1, rfl, n1, b1⟩
  obtain ⟨ga, gc, hv, -, -, hg⟩ := n1.shape
  obtain ⟨g1, hg⟩ := hg (by have := SN.out.zl; have := SN.out.p1; omega)
  rw [hg, SN.out.zl] at hv
  subst hv
  have N1 : Hid (Nums x1 x0.heap.size (.slice (some ⟨g1, 0, none⟩) (p * 8) gc) zs) := n1
  have B2 : Hid (Below w.heap.size w x1) := on B1.out b1
  have S1 : Hid (Vb x1 s #[.slice a0 H.regs.length k0, .int .i64 H.pc, .slice a1 H.csr.length k1, .bool H.halted, .bool H.waiting, .bool H.rung, .int .i64 H.done, .slice a2 H.inn.length k2, .slice a3 H.out.length k3] 28) := S0.out.keep b1
  clear n1 b1 hg
  refine hK.out _ _ S1.out (fun _ => ?_)
  clear hK K
  refine wpAnyH_ready (rs := [4]) (by kernel_rfl) (by simp) ?_
  refine AllReadyH.cons rfl (fun K hK => ?_) AllReadyH.nil
  rw [if_pos (by rfl)]
  go_simp
  refine (s_copyX _ _ _ _ H b x1 (HM.out.keep B2.out) (by have := SN.out.hok.r16; omega) (by have := SN.out.hok.c11; omega) (by have := SN.out.hok.i40; omega) (by have := SN.out.hok.o40; omega)).mono ?_
  rintro e x2 ⟨r2, d2, i2, o2, rfl, m2, A2, b2, bo, bo1, bo2, bo3, bo4⟩
  obtain ⟨xr, kr, hr, -, -, hgr⟩ := m2.r.shape
  obtain ⟨rg, hgr⟩ := hgr (by have := SN.out.hok.r16; omega)
  rw [hgr, SN.out.hok.r16] at hr
  subst hr
  obtain ⟨xc, kc, hc, -, -, hgc⟩ := m2.c.shape
  obtain ⟨cg, hgc⟩ := hgc (by have := SN.out.hok.c11; omega)
  rw [hgc, SN.out.hok.c11] at hc
  subst hc
  obtain ⟨xi, ki, hi, _⟩ := m2.i.shape
  obtain ⟨xo, ko, ho, _⟩ := m2.o.shape
  subst hi ho
  have M2 : Hid (Hm x2 x1.heap.size (.slice (some ⟨rg, 0, none⟩) 16 kr) (.slice (some ⟨cg, 0, none⟩) 11 kc) (.slice xi H.inn.length ki) (.slice xo H.out.length ko) H) := m2
  have HA2 : Hid (Ha (.slice (some ⟨rg, 0, none⟩) 16 kr) (.slice (some ⟨cg, 0, none⟩) 11 kc) (.slice xi H.inn.length ki) (.slice xo H.out.length ko)) := A2
  have BO : Hid (x1.heap.size ≤ bo ∧ bo ≤ x2.heap.size ∧ Nums x2 bo (.slice xo H.out.length ko) H.out ∧ (∀ k, ((Value.slice (some ⟨rg, 0, none⟩) 16 kr).ownBlock = some k ∨ (Value.slice (some ⟨cg, 0, none⟩) 11 kc).ownBlock = some k ∨ (Value.slice xi H.inn.length ki).ownBlock = some k) → k < bo)) := ⟨bo1, bo2, bo3, bo4⟩
  have N2 : Hid (Nums x2 x0.heap.size (.slice (some ⟨g1, 0, none⟩) (p * 8) gc) zs) := N1.out.keep b2
  have B3 : Hid (Below w.heap.size w x2) := on B2.out b2
  have S2 : Hid (Vb x2 s #[.slice a0 H.regs.length k0, .int .i64 H.pc, .slice a1 H.csr.length k1, .bool H.halted, .bool H.waiting, .bool H.rung, .int .i64 H.done, .slice a2 H.inn.length k2, .slice a3 H.out.length k3] 28) := S1.out.keep b2
  have LG : Hid (g1 < x1.heap.size ∧ x0.heap.size ≤ g1 ∧ w.heap.size ≤ x0.heap.size ∧ w.heap.size ≤ x1.heap.size) := ⟨(N1.out.lt g1 rfl).2, (N1.out.lt g1 rfl).1, B1.out.size, B2.out.size⟩
  clear m2 A2 b2 bo1 bo2 bo3 bo4 hgr hgc
  refine hK.out _ _ S2.out (fun _ => ?_)
  clear hK K
  refine wpAnyH_take (i := 5) (v := .agg #[.slice (some ⟨pg, 0, none⟩) 8 pc, .slice (some ⟨g1, 0, none⟩) (p * 8) gc, .int .i64 (-1), .slice (some ⟨rg, 0, none⟩) 16 kr, .int .i64 H.pc, .slice (some ⟨cg, 0, none⟩) 11 kc, .bool H.halted, .bool H.waiting, .bool H.rung, .int .i64 H.done, .slice xi H.inn.length ki, .slice xo H.out.length ko, .int .i64 (-1)]) rfl (by kernel_rfl) (by kernel_rfl) (by kernel_rfl) (fun _ _ _ h => h) (Or.inl ⟨by rfl, fun w' hs => by go_simp⟩) S2.out ?_
  change wpAnyH _ _ _ _ _ _ _ (Act.put _ (some 12) _) _
  simp only [Act.put, List.setIfInBounds_toArray, List.set_cons_zero, List.set_cons_succ]
  refine wpAnyH_ready (rs := [6]) (by kernel_rfl) (by simp) ?_
  refine AllReadyH.cons rfl (fun K hK => ?_) AllReadyH.nil
  rw [if_pos (by rfl)]
  go_simp
  have bb : Below x2.heap.size x2 (x2.alloc (.cells (busC ⟨w.heap.size, x2.heap.size, rg, kr, cg, kc, g1, gc, pg, pc, p, ps, none⟩ (.slice xi H.inn.length ki) (.slice xo H.out.length ko) H (-1) (-1)) 53)) := al (Below.refl _ _) _
  have BB : Hid (Bs (x2.alloc (.cells (busC ⟨w.heap.size, x2.heap.size, rg, kr, cg, kc, g1, gc, pg, pc, p, ps, none⟩ (.slice xi H.inn.length ki) (.slice xo H.out.length ko) H (-1) (-1)) 53)) ⟨w.heap.size, x2.heap.size, rg, kr, cg, kc, g1, gc, pg, pc, p, ps, none⟩ (.slice xi H.inn.length ki) (.slice xo H.out.length ko) zs H (-1) (-1)) := by
    have l1 := (M2.out.r.lt rg rfl)
    have l2 := (M2.out.c.lt cg rfl)
    have l3 := LG.out
    have o1 := BO.out.2.2.2 rg (.inl rfl)
    have o2 := BO.out.2.2.2 cg (.inr (.inl rfl))
    refine ⟨Vb.new _ _ _, (M2.out.r.mono l3.2.2.2).keep bb, (M2.out.c.mono l3.2.2.2).keep bb, (N2.out.mono l3.2.2.1).keep bb, (M2.out.i.keep bb).rv, ⟨bo, by have := BO.out.1; show w.heap.size ≤ bo; omega, by have := BO.out.2.1; have := bb.size; omega, BO.out.2.2.1.keep bb, o1, o2, by have := BO.out.1; show g1 < bo; omega, fun k e => BO.out.2.2.2 k (.inr (.inr e))⟩, fun k e => ?_, ?_, ?_, ?_, ((HP.out.keep B3.out).keep bb).mono (Nat.zero_le _), PL.out, by show w.heap.size ≤ x2.heap.size; exact B3.out.size, fun x cs t e => by cases e⟩
    · obtain ⟨h1, h2⟩ := M2.out.i.lt k e
      refine ⟨by show w.heap.size ≤ k; omega, Nat.lt_of_lt_of_le h2 bb.size, ?_, ?_, by show k ≠ g1; omega, by show k ≠ x2.heap.size; omega⟩
      · intro f; exact apt_noZ HA2.out.ri rfl (e.trans (congrArg some (show k = rg from f)))
      · intro f; exact apt_noZ HA2.out.ci rfl (e.trans (congrArg some (show k = cg from f)))
    · intro f; exact apt_noZ HA2.out.rc rfl (by rw [show rg = cg from f]; rfl)
    · show rg ≠ g1; omega
    · show cg ≠ g1; omega
  have SB : Hid (Vb (x2.alloc (.cells (busC ⟨w.heap.size, x2.heap.size, rg, kr, cg, kc, g1, gc, pg, pc, p, ps, none⟩ (.slice xi H.inn.length ki) (.slice xo H.out.length ko) H (-1) (-1)) 53)) s #[.slice a0 H.regs.length k0, .int .i64 H.pc, .slice a1 H.csr.length k1, .bool H.halted, .bool H.waiting, .bool H.rung, .int .i64 H.done, .slice a2 H.inn.length k2, .slice a3 H.out.length k3] 28) := S2.out.keep bb
  refine hK.out _ _ SB.out (fun _ => ?_)
  clear hK K
  refine wpAnyH_take (i := 7) (v := .pointer (some ⟨x2.heap.size, 0, none⟩)) rfl (by kernel_rfl) (by kernel_rfl) (by kernel_rfl) (fun _ _ _ h => h) (Or.inl ⟨by rfl, fun w' hs => by go_simp⟩) SB.out ?_
  change wpAnyH _ _ _ _ _ _ _ (Act.put _ (some 6) _) _
  simp only [Act.put, List.setIfInBounds_toArray, List.set_cons_zero, List.set_cons_succ]
  refine wpAnyH_done (by kernel_rfl) ?_ _
  go_wp2_with fail
  go_ret
  exact ⟨⟨w.heap.size, x2.heap.size, rg, kr, cg, kc, g1, gc, pg, pc, p, ps, none⟩, _, _, rfl, rfl, rfl, rfl, BB.out, on B3.out bb⟩
/-- A machine and a memory that are read alone. -/
structure Tr (w : World) (base : Nat) (r c i o m : Value) (H : Ht) (zs : List Int) : Prop where
  h : Hr w r c i o H
  mm : Rv w m zs
  lt : ∀ k, (Own4 r c i o k ∨ m.ownBlock = some k) → k < w.heap.size
theorem Tr.mq {S : Nat → Prop} {w w' : World} {base : Nat} {r c i o m : Value} {H : Ht} {zs : List Int} (s : Tr w base r c i o m H zs) (g : Mq S w w') (hn : ∀ k, (Own4 r c i o k ∨ m.ownBlock = some k) → ¬ S k) : Tr w' base r c i o m H zs :=
  ⟨s.h.mq g fun k e _ => hn k (.inl e), s.mm.mq g fun k e _ => hn k (.inr e), fun k e => Nat.lt_of_lt_of_le (s.lt k e) g.size⟩
theorem Tm.own {w : World} {base : Nat} {r c i o m : Value} {H : Ht} {zs : List Int} (s : Tm w base r c i o m H zs) (k : Nat) (e : Own4 r c i o k ∨ m.ownBlock = some k) : base ≤ k ∧ k < w.heap.size := by
  rcases e with e | e
  · exact s.h.own k e
  · exact s.mm.lt k e
theorem Tm.tr {w : World} {base : Nat} {r c i o m : Value} {H : Ht} {zs : List Int} (s : Tm w base r c i o m H zs) : Tr w base r c i o m H zs := ⟨s.h.hr, s.mm.rv, fun k e => (s.own k e).2⟩
theorem Tm.mq {S : Nat → Prop} {w w' : World} {base : Nat} {r c i o m : Value} {H : Ht} {zs : List Int} (s : Tm w base r c i o m H zs) (g : Mq S w w') (hn : ∀ k, (Own4 r c i o k ∨ m.ownBlock = some k) → ¬ S k) : Tm w' base r c i o m H zs :=
  ⟨g.hm s.h fun k e => hn k (.inl e), s.a, g.nums s.mm fun k e => hn k (.inr e), s.rm, s.cm, s.im, s.om⟩
theorem Tr.void (w : World) (base : Nat) : Tr w base (.slice none 0 0) (.slice none 0 0) (.slice none 0 0) (.slice none 0 0) (.slice none 0 0) voidH [] := (Tm.void w base).tr
theorem Tr.keep {w w' : World} {base : Nat} {r c i o m : Value} {H : Ht} {zs : List Int} (s : Tr w base r c i o m H zs) (b : Below w.heap.size w w') : Tr w' base r c i o m H zs := ⟨s.h.stay b, s.mm.stay b, fun k e => Nat.lt_of_lt_of_le (s.lt k e) b.size⟩
set_option maxRecDepth 20000 in
set_option maxHeartbeats 8000000 in
theorem sm_bad (r c i o : Value) (H : Ht) (pa : Option Addr) (pn pc : Nat) (ps : List (Int × Int)) (ma : Option Addr) (mn mc : Nat) (zs : List Int) (n : Int) (b : Nat) (w : World) (h : Hm w b r c i o H) (hP : Prs 55 w b (.slice pa pn pc) ps) (hl : ps.length ≤ 1048576) (hM : Nums w b (.slice ma mn mc) zs) (hm : zs.length ≤ 1048576) (hf : ¬ seenC H ps zs = 0) :
    Calls Tryz.prog 21 #[.agg #[r, .int .i64 H.pc, c, .bool H.halted, .bool H.waiting, .bool H.rung, .int .i64 H.done, i, o], .slice pa pn pc, .slice ma mn mc, .int .i64 n] w fun e w' => ∃ r' c' i' o' m', e = .returned (.agg #[.int .i64 (smV H ps zs n).code, .int .i64 (smV H ps zs n).ca, .int .i64 (smV H ps zs n).ri, r', .int .i64 (smV H ps zs n).H.pc, c', .bool (smV H ps zs n).H.halted, .bool (smV H ps zs n).H.waiting, .bool (smV H ps zs n).H.rung, .int .i64 (smV H ps zs n).H.done, i', o', m']) ∧ Tr w' w.heap.size r' c' i' o' m' (smV H ps zs n).H (smV H ps zs n).zs ∧ Below w.heap.size w w' := by
  have hv : smV H ps zs n = ⟨seenC H ps zs, 0, 0, voidH, []⟩ := if_neg hf
  rw [hv]
  obtain ⟨f, hff⟩ : ∃ f, seenC H ps zs = f := ⟨_, rfl⟩
  rw [hff] at hf ⊢
  have HF : Hid (seenC H ps zs = f) := hff
  have hf2 : (f != 0) = true := by simpa using hf
  clear hv hff hf
  have HM : Hid (Hm w b r c i o H) := h
  have HP : Hid (Prs 55 w b (.slice pa pn pc) ps) := hP
  have HZ : Hid (Nums w b (.slice ma mn mc) zs) := hM
  have HL : Hid (ps.length ≤ 1048576 ∧ zs.length ≤ 1048576) := ⟨hl, hm⟩
  obtain ⟨a0, k0, rfl, _⟩ := h.r.shape
  obtain ⟨a1, k1, rfl, _⟩ := h.c.shape
  obtain ⟨a2, k2, rfl, _⟩ := h.i.shape
  obtain ⟨a3, k3, rfl, _⟩ := h.o.shape
  clear h hP hl hM hm
  generalize hW : (w.alloc (.cells #[.slice a0 H.regs.length k0, .int .i64 H.pc, .slice a1 H.csr.length k1, .bool H.halted, .bool H.waiting, .bool H.rung, .int .i64 H.done, .slice a2 H.inn.length k2, .slice a3 H.out.length k3] 28)).alloc (.cells #[.int .i64 0, .int .i64 0, .int .i64 0, .slice none 0 0, .int .i64 0, .slice none 0 0, .bool false, .bool false, .bool false, .int .i64 0, .slice none 0 0, .slice none 0 0, .slice none 0 0] 30) = W
  have B0 : Hid (Below w.heap.size w W) := by show Below _ _ _; rw [← hW]; exact al (al (Below.refl _ _) _) _
  obtain ⟨s, hS⟩ : ∃ s, w.heap.size = s := ⟨_, rfl⟩
  have HS : Hid (w.heap.size = s) := hS
  have VA1 : Hid (Vb W s #[.slice a0 H.regs.length k0, .int .i64 H.pc, .slice a1 H.csr.length k1, .bool H.halted, .bool H.waiting, .bool H.rung, .int .i64 H.done, .slice a2 H.inn.length k2, .slice a3 H.out.length k3] 28) := by
    show Vb _ _ _ _; rw [← hW, ← hS]; exact (Vb.new _ _ _).push _
  have VR1 : Hid (Vb W (s + 1) #[.int .i64 0, .int .i64 0, .int .i64 0, .slice none 0 0, .int .i64 0, .slice none 0 0, .bool false, .bool false, .bool false, .int .i64 0, .slice none 0 0, .slice none 0 0, .slice none 0 0] 30) := by
    have z1 : s + 1 = (w.alloc (.cells #[.slice a0 H.regs.length k0, .int .i64 H.pc, .slice a1 H.csr.length k1, .bool H.halted, .bool H.waiting, .bool H.rung, .int .i64 H.done, .slice a2 H.inn.length k2, .slice a3 H.out.length k3] 28)).heap.size := by rw [← hS]; simp
    show Vb _ _ _ _; rw [← hW, z1]; exact Vb.new _ _ _
  go_enter Tryz.func21, Tryz.ntmps21
  go_wp2_with fail
  clear hW hS
  refine (s_asked s _ _ _ _ H pa pn pc ps ma mn mc zs b W (HM.out.keep B0.out) VA1.out (HP.out.keep B0.out) HL.out.1 (HZ.out.keep B0.out) HL.out.2).mono ?_
  rintro e w1 ⟨rfl, hw1⟩
  subst hw1
  have M1 : Hid (Hm w1 b _ _ _ _ H) := HM.out.keep B0.out
  have P1 : Hid (Prs 55 w1 b (.slice pa pn pc) ps) := HP.out.keep B0.out
  have Z1 : Hid (Nums w1 b (.slice ma mn mc) zs) := HZ.out.keep B0.out
  have B1 := B0
  clear HM HP HZ B0
  rw [HF.out]
  have p0 := VR1.out.cell 0 rfl
  have p1 := VR1.out.cell 1 rfl
  have p2 := VR1.out.cell 2 rfl
  have p3 := VR1.out.cell 3 rfl
  have p4 := VR1.out.cell 4 rfl
  have p5 := VR1.out.cell 5 rfl
  have p6 := VR1.out.cell 6 rfl
  have p7 := VR1.out.cell 7 rfl
  have p8 := VR1.out.cell 8 rfl
  have p9 := VR1.out.cell 9 rfl
  have p10 := VR1.out.cell 10 rfl
  have p11 := VR1.out.cell 11 rfl
  have p12 := VR1.out.cell 12 rfl
  have f0 := VR1.out.free 0
  have f1 := VR1.out.free 1
  have f2 := VR1.out.free 2
  have f3 := VR1.out.free 3
  have f4 := VR1.out.free 4
  have f5 := VR1.out.free 5
  have f6 := VR1.out.free 6
  have f7 := VR1.out.free 7
  have f8 := VR1.out.free 8
  have f9 := VR1.out.free 9
  have f10 := VR1.out.free 10
  have f11 := VR1.out.free 11
  have f12 := VR1.out.free 12
  go_wp2_with fail
  have NN : Hid (_ ∧ _) := thirteenX VR1.out (.int .i64 f) (.int .i64 0) (.int .i64 0) (.slice none 0 0) (.int .i64 0) (.slice none 0 0) (.bool false) (.bool false) (.bool false) (.int .i64 0) (.slice none 0 0) (.slice none 0 0) (.slice none 0 0)
  clear p0 p1 p2 p3 p4 p5 p6 p7 p8 p9 p10 p11 p12 f0 f1 f2 f3 f4 f5 f6 f7 f8 f9 f10 f11 f12
  generalize (((((((((((((w1.setCell ⟨s + 1, 0, none⟩ (.int .i64 f)).setCell ⟨s + 1, 1, none⟩ (.int .i64 0)).setCell ⟨s + 1, 2, none⟩ (.int .i64 0)).setCell ⟨s + 1, 3, none⟩ (.slice none 0 0)).setCell ⟨s + 1, 4, none⟩ (.int .i64 0)).setCell ⟨s + 1, 5, none⟩ (.slice none 0 0)).setCell ⟨s + 1, 6, none⟩ (.bool false)).setCell ⟨s + 1, 7, none⟩ (.bool false)).setCell ⟨s + 1, 8, none⟩ (.bool false)).setCell ⟨s + 1, 9, none⟩ (.int .i64 0)).setCell ⟨s + 1, 10, none⟩ (.slice none 0 0)).setCell ⟨s + 1, 11, none⟩ (.slice none 0 0)).setCell ⟨s + 1, 12, none⟩ (.slice none 0 0)) = V at *
  have x0 := NN.out.1.cell 0 rfl
  have x1 := NN.out.1.cell 1 rfl
  have x2 := NN.out.1.cell 2 rfl
  have x3 := NN.out.1.cell 3 rfl
  have x4 := NN.out.1.cell 4 rfl
  have x5 := NN.out.1.cell 5 rfl
  have x6 := NN.out.1.cell 6 rfl
  have x7 := NN.out.1.cell 7 rfl
  have x8 := NN.out.1.cell 8 rfl
  have x9 := NN.out.1.cell 9 rfl
  have x10 := NN.out.1.cell 10 rfl
  have x11 := NN.out.1.cell 11 rfl
  have x12 := NN.out.1.cell 12 rfl
  exact bodyPost_ret (v := .agg #[.int .i64 f, .int .i64 0, .int .i64 0, .slice none 0 0, .int .i64 0, .slice none 0 0, .bool false, .bool false, .bool false, .int .i64 0, .slice none 0 0, .slice none 0 0, .slice none 0 0]) (by simp [results, Tryz.results21, go_sem, x0, x1, x2, x3, x4, x5, x6, x7, x8, x9, x10, x11, x12]) rfl
    ⟨_, _, _, _, _, rfl, Tr.void _ _, Mq.under B1.out NN.out.2 fun k e => by have := HS.out; omega⟩
set_option maxRecDepth 20000 in
set_option maxHeartbeats 8000000 in
theorem sm_range (r c i o : Value) (H : Ht) (pa : Option Addr) (pn pc : Nat) (ps : List (Int × Int)) (ma : Option Addr) (mn mc : Nat) (zs : List Int) (n : Int) (b : Nat) (w : World) (h : Hm w b r c i o H) (hP : Prs 55 w b (.slice pa pn pc) ps) (hl : ps.length ≤ 1048576) (hM : Nums w b (.slice ma mn mc) zs) (hm : zs.length ≤ 1048576) (hf : seenC H ps zs = 0) (hn : ¬ (0 ≤ n ∧ n ≤ 500)) :
    Calls Tryz.prog 21 #[.agg #[r, .int .i64 H.pc, c, .bool H.halted, .bool H.waiting, .bool H.rung, .int .i64 H.done, i, o], .slice pa pn pc, .slice ma mn mc, .int .i64 n] w fun e w' => ∃ r' c' i' o' m', e = .returned (.agg #[.int .i64 (smV H ps zs n).code, .int .i64 (smV H ps zs n).ca, .int .i64 (smV H ps zs n).ri, r', .int .i64 (smV H ps zs n).H.pc, c', .bool (smV H ps zs n).H.halted, .bool (smV H ps zs n).H.waiting, .bool (smV H ps zs n).H.rung, .int .i64 (smV H ps zs n).H.done, i', o', m']) ∧ Tr w' w.heap.size r' c' i' o' m' (smV H ps zs n).H (smV H ps zs n).zs ∧ Below w.heap.size w w' := by
  have hv : smV H ps zs n = ⟨3, 0, 0, voidH, []⟩ := by unfold smV; rw [if_pos hf, if_neg hn]
  rw [hv]
  have HF : Hid (seenC H ps zs = 0) := hf
  clear hv hf
  have IN : Hid ((decide ((0 : Int) ≤ n) && decide (n ≤ 500)) = false) := by show _ = _; rw [Bool.and_eq_false_iff, decide_eq_false_iff_not, decide_eq_false_iff_not]; omega
  clear hn
  have HM : Hid (Hm w b r c i o H) := h
  have HP : Hid (Prs 55 w b (.slice pa pn pc) ps) := hP
  have HZ : Hid (Nums w b (.slice ma mn mc) zs) := hM
  have HL : Hid (ps.length ≤ 1048576 ∧ zs.length ≤ 1048576) := ⟨hl, hm⟩
  obtain ⟨a0, k0, rfl, _⟩ := h.r.shape
  obtain ⟨a1, k1, rfl, _⟩ := h.c.shape
  obtain ⟨a2, k2, rfl, _⟩ := h.i.shape
  obtain ⟨a3, k3, rfl, _⟩ := h.o.shape
  clear h hP hl hM hm
  generalize hW : (w.alloc (.cells #[.slice a0 H.regs.length k0, .int .i64 H.pc, .slice a1 H.csr.length k1, .bool H.halted, .bool H.waiting, .bool H.rung, .int .i64 H.done, .slice a2 H.inn.length k2, .slice a3 H.out.length k3] 28)).alloc (.cells #[.int .i64 0, .int .i64 0, .int .i64 0, .slice none 0 0, .int .i64 0, .slice none 0 0, .bool false, .bool false, .bool false, .int .i64 0, .slice none 0 0, .slice none 0 0, .slice none 0 0] 30) = W
  have B0 : Hid (Below w.heap.size w W) := by show Below _ _ _; rw [← hW]; exact al (al (Below.refl _ _) _) _
  obtain ⟨s, hS⟩ : ∃ s, w.heap.size = s := ⟨_, rfl⟩
  have HS : Hid (w.heap.size = s) := hS
  have VA1 : Hid (Vb W s #[.slice a0 H.regs.length k0, .int .i64 H.pc, .slice a1 H.csr.length k1, .bool H.halted, .bool H.waiting, .bool H.rung, .int .i64 H.done, .slice a2 H.inn.length k2, .slice a3 H.out.length k3] 28) := by
    show Vb _ _ _ _; rw [← hW, ← hS]; exact (Vb.new _ _ _).push _
  have VR1 : Hid (Vb W (s + 1) #[.int .i64 0, .int .i64 0, .int .i64 0, .slice none 0 0, .int .i64 0, .slice none 0 0, .bool false, .bool false, .bool false, .int .i64 0, .slice none 0 0, .slice none 0 0, .slice none 0 0] 30) := by
    have z1 : s + 1 = (w.alloc (.cells #[.slice a0 H.regs.length k0, .int .i64 H.pc, .slice a1 H.csr.length k1, .bool H.halted, .bool H.waiting, .bool H.rung, .int .i64 H.done, .slice a2 H.inn.length k2, .slice a3 H.out.length k3] 28)).heap.size := by rw [← hS]; simp
    show Vb _ _ _ _; rw [← hW, z1]; exact Vb.new _ _ _
  go_enter Tryz.func21, Tryz.ntmps21
  go_wp2_with fail
  clear hW hS
  refine (s_asked s _ _ _ _ H pa pn pc ps ma mn mc zs b W (HM.out.keep B0.out) VA1.out (HP.out.keep B0.out) HL.out.1 (HZ.out.keep B0.out) HL.out.2).mono ?_
  rintro e w1 ⟨rfl, hw1⟩
  subst hw1
  have M1 : Hid (Hm w1 b _ _ _ _ H) := HM.out.keep B0.out
  have P1 : Hid (Prs 55 w1 b (.slice pa pn pc) ps) := HP.out.keep B0.out
  have Z1 : Hid (Nums w1 b (.slice ma mn mc) zs) := HZ.out.keep B0.out
  have B1 := B0
  clear HM HP HZ B0
  rw [HF.out]
  have p0 := VR1.out.cell 0 rfl
  have p1 := VR1.out.cell 1 rfl
  have p2 := VR1.out.cell 2 rfl
  have p3 := VR1.out.cell 3 rfl
  have p4 := VR1.out.cell 4 rfl
  have p5 := VR1.out.cell 5 rfl
  have p6 := VR1.out.cell 6 rfl
  have p7 := VR1.out.cell 7 rfl
  have p8 := VR1.out.cell 8 rfl
  have p9 := VR1.out.cell 9 rfl
  have p10 := VR1.out.cell 10 rfl
  have p11 := VR1.out.cell 11 rfl
  have p12 := VR1.out.cell 12 rfl
  have f0 := VR1.out.free 0
  have f1 := VR1.out.free 1
  have f2 := VR1.out.free 2
  have f3 := VR1.out.free 3
  have f4 := VR1.out.free 4
  have f5 := VR1.out.free 5
  have f6 := VR1.out.free 6
  have f7 := VR1.out.free 7
  have f8 := VR1.out.free 8
  have f9 := VR1.out.free 9
  have f10 := VR1.out.free 10
  have f11 := VR1.out.free 11
  have f12 := VR1.out.free 12
  go_wp2_with (go_at_call 31; refine (spec_in _ _ _ _).mono ?_; rintro e y ⟨rfl, hy⟩; rw [hy]; clear hy y; rw [IN.out])
  have NN : Hid (_ ∧ _) := thirteenX VR1.out (.int .i64 3) (.int .i64 0) (.int .i64 0) (.slice none 0 0) (.int .i64 0) (.slice none 0 0) (.bool false) (.bool false) (.bool false) (.int .i64 0) (.slice none 0 0) (.slice none 0 0) (.slice none 0 0)
  clear p0 p1 p2 p3 p4 p5 p6 p7 p8 p9 p10 p11 p12 f0 f1 f2 f3 f4 f5 f6 f7 f8 f9 f10 f11 f12
  generalize (((((((((((((w1.setCell ⟨s + 1, 0, none⟩ (.int .i64 3)).setCell ⟨s + 1, 1, none⟩ (.int .i64 0)).setCell ⟨s + 1, 2, none⟩ (.int .i64 0)).setCell ⟨s + 1, 3, none⟩ (.slice none 0 0)).setCell ⟨s + 1, 4, none⟩ (.int .i64 0)).setCell ⟨s + 1, 5, none⟩ (.slice none 0 0)).setCell ⟨s + 1, 6, none⟩ (.bool false)).setCell ⟨s + 1, 7, none⟩ (.bool false)).setCell ⟨s + 1, 8, none⟩ (.bool false)).setCell ⟨s + 1, 9, none⟩ (.int .i64 0)).setCell ⟨s + 1, 10, none⟩ (.slice none 0 0)).setCell ⟨s + 1, 11, none⟩ (.slice none 0 0)).setCell ⟨s + 1, 12, none⟩ (.slice none 0 0)) = V at *
  have x0 := NN.out.1.cell 0 rfl
  have x1 := NN.out.1.cell 1 rfl
  have x2 := NN.out.1.cell 2 rfl
  have x3 := NN.out.1.cell 3 rfl
  have x4 := NN.out.1.cell 4 rfl
  have x5 := NN.out.1.cell 5 rfl
  have x6 := NN.out.1.cell 6 rfl
  have x7 := NN.out.1.cell 7 rfl
  have x8 := NN.out.1.cell 8 rfl
  have x9 := NN.out.1.cell 9 rfl
  have x10 := NN.out.1.cell 10 rfl
  have x11 := NN.out.1.cell 11 rfl
  have x12 := NN.out.1.cell 12 rfl
  exact bodyPost_ret (v := .agg #[.int .i64 3, .int .i64 0, .int .i64 0, .slice none 0 0, .int .i64 0, .slice none 0 0, .bool false, .bool false, .bool false, .int .i64 0, .slice none 0 0, .slice none 0 0, .slice none 0 0]) (by simp [results, Tryz.results21, go_sem, x0, x1, x2, x3, x4, x5, x6, x7, x8, x9, x10, x11, x12]) rfl
    ⟨_, _, _, _, _, rfl, Tr.void _ _, Mq.under B1.out NN.out.2 fun k e => by have := HS.out; omega⟩
set_option maxRecDepth 20000 in
set_option maxHeartbeats 8000000 in
theorem sm_good (r c i o : Value) (H : Ht) (pa : Option Addr) (pn pc : Nat) (ps : List (Int × Int)) (ma : Option Addr) (mn mc : Nat) (zs : List Int) (n : Int) (b : Nat) (w : World) (h : Hm w b r c i o H) (hP : Prs 55 w b (.slice pa pn pc) ps) (hl : ps.length ≤ 1048576) (hM : Nums w b (.slice ma mn mc) zs) (hm : zs.length ≤ 1048576) (hf : seenC H ps zs = 0) (hn : 0 ≤ n ∧ n ≤ 500) :
    Calls Tryz.prog 21 #[.agg #[r, .int .i64 H.pc, c, .bool H.halted, .bool H.waiting, .bool H.rung, .int .i64 H.done, i, o], .slice pa pn pc, .slice ma mn mc, .int .i64 n] w fun e w' => ∃ r' c' i' o' m', e = .returned (.agg #[.int .i64 (smV H ps zs n).code, .int .i64 (smV H ps zs n).ca, .int .i64 (smV H ps zs n).ri, r', .int .i64 (smV H ps zs n).H.pc, c', .bool (smV H ps zs n).H.halted, .bool (smV H ps zs n).H.waiting, .bool (smV H ps zs n).H.rung, .int .i64 (smV H ps zs n).H.done, i', o', m']) ∧ Tr w' w.heap.size r' c' i' o' m' (smV H ps zs n).H (smV H ps zs n).zs ∧ Below w.heap.size w w' := by
  obtain ⟨N, rfl⟩ : ∃ N : Nat, n = (N : Int) := ⟨n.toNat, by omega⟩
  have hv : smV H ps zs (N : Int) = ⟨0, (manyV ps N (H, zs, -1, -1)).2.2.1, (manyV ps N (H, zs, -1, -1)).2.2.2, (manyV ps N (H, zs, -1, -1)).1, (manyV ps N (H, zs, -1, -1)).2.1⟩ := by unfold smV; rw [if_pos hf, if_pos hn]; rfl
  rw [hv]
  obtain ⟨Y, hY⟩ : ∃ Y, manyV ps N (H, zs, -1, -1) = Y := ⟨_, rfl⟩
  rw [hY]
  have HY : Hid (manyV ps N (H, zs, -1, -1) = Y) := hY
  have HF : Hid (seenC H ps zs = 0) := hf
  have n5 : (N : Int) ≤ 500 := hn.2
  have n0 : ¬ (N : Int) < 0 := by omega
  have n6 : ¬ (500 : Int) < (N : Int) := by omega
  have HN : Hid (N ≤ 500) := by show _ ≤ _; omega
  clear hv hf hn hY
  have IN : Hid ((decide ((0 : Int) ≤ (N : Int)) && decide ((N : Int) ≤ 500)) = true) := by show _ = _; rw [Bool.and_eq_true, decide_eq_true_eq, decide_eq_true_eq]; omega
  clear n0 n6
  have HM : Hid (Hm w b r c i o H) := h
  have HP : Hid (Prs 55 w b (.slice pa pn pc) ps) := hP
  have HZ : Hid (Nums w b (.slice ma mn mc) zs) := hM
  have HL : Hid (ps.length ≤ 1048576 ∧ zs.length ≤ 1048576) := ⟨hl, hm⟩
  obtain ⟨a0, k0, rfl, _⟩ := h.r.shape
  obtain ⟨a1, k1, rfl, _⟩ := h.c.shape
  obtain ⟨a2, k2, rfl, _⟩ := h.i.shape
  obtain ⟨a3, k3, rfl, _⟩ := h.o.shape
  clear h hP hl hM hm
  generalize hW : (w.alloc (.cells #[.slice a0 H.regs.length k0, .int .i64 H.pc, .slice a1 H.csr.length k1, .bool H.halted, .bool H.waiting, .bool H.rung, .int .i64 H.done, .slice a2 H.inn.length k2, .slice a3 H.out.length k3] 28)).alloc (.cells #[.int .i64 0, .int .i64 0, .int .i64 0, .slice none 0 0, .int .i64 0, .slice none 0 0, .bool false, .bool false, .bool false, .int .i64 0, .slice none 0 0, .slice none 0 0, .slice none 0 0] 30) = W
  have B0 : Hid (Below w.heap.size w W) := by show Below _ _ _; rw [← hW]; exact al (al (Below.refl _ _) _) _
  obtain ⟨s, hS⟩ : ∃ s, w.heap.size = s := ⟨_, rfl⟩
  have HS : Hid (w.heap.size = s) := hS
  have VA1 : Hid (Vb W s #[.slice a0 H.regs.length k0, .int .i64 H.pc, .slice a1 H.csr.length k1, .bool H.halted, .bool H.waiting, .bool H.rung, .int .i64 H.done, .slice a2 H.inn.length k2, .slice a3 H.out.length k3] 28) := by
    show Vb _ _ _ _; rw [← hW, ← hS]; exact (Vb.new _ _ _).push _
  have VR1 : Hid (Vb W (s + 1) #[.int .i64 0, .int .i64 0, .int .i64 0, .slice none 0 0, .int .i64 0, .slice none 0 0, .bool false, .bool false, .bool false, .int .i64 0, .slice none 0 0, .slice none 0 0, .slice none 0 0] 30) := by
    have z1 : s + 1 = (w.alloc (.cells #[.slice a0 H.regs.length k0, .int .i64 H.pc, .slice a1 H.csr.length k1, .bool H.halted, .bool H.waiting, .bool H.rung, .int .i64 H.done, .slice a2 H.inn.length k2, .slice a3 H.out.length k3] 28)).heap.size := by rw [← hS]; simp
    show Vb _ _ _ _; rw [← hW, z1]; exact Vb.new _ _ _
  go_enter Tryz.func21, Tryz.ntmps21
  go_wp2_with fail
  clear hW hS
  refine (s_asked s _ _ _ _ H pa pn pc ps ma mn mc zs b W (HM.out.keep B0.out) VA1.out (HP.out.keep B0.out) HL.out.1 (HZ.out.keep B0.out) HL.out.2).mono ?_
  rintro e w1 ⟨rfl, hw1⟩
  subst hw1
  have M1 : Hid (Hm w1 b _ _ _ _ H) := HM.out.keep B0.out
  have P1 : Hid (Prs 55 w1 b (.slice pa pn pc) ps) := HP.out.keep B0.out
  have Z1 : Hid (Nums w1 b (.slice ma mn mc) zs) := HZ.out.keep B0.out
  have B1 := B0
  clear HM HP HZ B0
  have hf := HF.out
  rw [HF.out]
  obtain ⟨p, sn⟩ := seen_ok hf
  have SN : Hid (Sn H ps zs p) := sn
  obtain rfl : mn = p * 8 := by have := Z1.out.len; have := sn.zl; omega
  obtain ⟨ga, gc, hv, -, -, hg⟩ := Z1.out.shape
  obtain ⟨gm, hg⟩ := hg (by have := sn.zl; have := sn.p1; omega)
  simp only [Value.slice.injEq] at hv
  obtain ⟨hv1, -, -⟩ := hv
  rw [hg] at hv1
  subst hv1
  clear hg
  obtain ⟨pa', pc', hv, -, -, hg⟩ := P1.out.shape
  obtain ⟨pg, hg⟩ := hg (by have := sn.l8; omega)
  simp only [Value.slice.injEq] at hv
  obtain ⟨hv1, hv2, -⟩ := hv
  rw [hg] at hv1
  subst hv1
  rw [sn.l8] at hv2
  subst hv2
  clear hg hf sn
  have q0 := VA1.out.cell 0 rfl
  have q1 := VA1.out.cell 1 rfl
  have q2 := VA1.out.cell 2 rfl
  have q3 := VA1.out.cell 3 rfl
  have q4 := VA1.out.cell 4 rfl
  have q5 := VA1.out.cell 5 rfl
  have q6 := VA1.out.cell 6 rfl
  have q7 := VA1.out.cell 7 rfl
  have q8 := VA1.out.cell 8 rfl
  go_upto_region 7 with (first | (go_at_call 31; refine (spec_in _ _ _ _).mono ?_; rintro e y ⟨rfl, hy⟩; rw [hy]; clear hy y; rw [IN.out]) | (go_at_call 25; refine (z_new _ _ _ _ H pg pc ps gm p mc zs b w1 M1.out P1.out Z1.out SN.out).mono ?_; rintro e w2 ⟨B, i2, o2, rfl, hb1, hb2, hb3, r2, b2⟩))
  clear q0 q1 q2 q3 q4 q5 q6 q7 q8
  have HB : Hid (B.ps = ps ∧ B.p = p ∧ B.base = w1.heap.size) := ⟨hb1, hb2, hb3⟩
  have R2 : Hid (Bs w2 B i2 o2 zs H (-1) (-1)) := r2
  have B2 : Hid (Below w.heap.size w w2) := on B1.out b2
  have VR2 : Hid (Vb w2 (s + 1) #[.int .i64 0, .int .i64 0, .int .i64 0, .slice none 0 0, .int .i64 0, .slice none 0 0, .bool false, .bool false, .bool false, .int .i64 0, .slice none 0 0, .slice none 0 0, .slice none 0 0] 30) := VR1.out.keep b2
  have L1 : Hid (s + 2 ≤ w1.heap.size ∧ w.heap.size ≤ w1.heap.size) := ⟨by have := VR1.out.lt; omega, B1.out.size⟩
  clear hb1 hb2 hb3 r2 b2
  go_upto_region 8 with fail
  obtain ⟨t, ht⟩ : ∃ t, w2.heap.size = t := ⟨_, rfl⟩
  generalize hW3 : w2.alloc (.cells #[.int .i64 0, .int .i64 (-1), .int .i64 (-1), .slice none 0 0, .int .i64 0, .slice none 0 0, .bool false, .bool false, .bool false, .int .i64 0, .slice none 0 0, .slice none 0 0, .slice none 0 0] 30) = W3
  have bb : Below w2.heap.size w2 W3 := by rw [← hW3]; exact al (Below.refl _ _) _
  have V3 : Vb W3 t #[.int .i64 0, .int .i64 (-1), .int .i64 (-1), .slice none 0 0, .int .i64 0, .slice none 0 0, .bool false, .bool false, .bool false, .int .i64 0, .slice none 0 0, .slice none 0 0, .slice none 0 0] 30 := by rw [← hW3, ← ht]; exact Vb.new _ _ _
  rw [ht]
  have R3 : Hid (Bs W3 { B with kx := some (t, #[.int .i64 0, .int .i64 (-1), .int .i64 (-1), .slice none 0 0, .int .i64 0, .slice none 0 0, .bool false, .bool false, .bool false, .int .i64 0, .slice none 0 0, .slice none 0 0, .slice none 0 0], 30) } i2 o2 zs H (-1) (-1)) := (R2.out.keep bb).kept t _ 30 V3 (by decide) (by have := R2.out.v.lt; omega) (fun e => by have := (R2.out.ib t e).2.1; omega)
  have B3 : Hid (Below w.heap.size w W3) := on B2.out bb
  have VR3 : Hid (Vb W3 (s + 1) #[.int .i64 0, .int .i64 0, .int .i64 0, .slice none 0 0, .int .i64 0, .slice none 0 0, .bool false, .bool false, .bool false, .int .i64 0, .slice none 0 0, .slice none 0 0, .slice none 0 0] 30) := VR2.out.keep bb
  have TB : Hid (B.base ≤ t) := by show _ ≤ _; rw [← ht]; exact R2.out.size
  clear hW3 ht bb V3 R2 B2 VR2
  go_wp2_with fail
  go_loopw [12] (fun k wr => ∃ j : Nat, j ≤ N ∧ k = .int .i64 j ∧ (∃ i' o' rn fa, Bs wr { B with kx := some (t, #[.int .i64 0, .int .i64 (manyV ps j (H, zs, -1, -1)).2.2.1, .int .i64 (manyV ps j (H, zs, -1, -1)).2.2.2, .slice none 0 0, .int .i64 0, .slice none 0 0, .bool false, .bool false, .bool false, .int .i64 0, .slice none 0 0, .slice none 0 0, .slice none 0 0], 30) } i' o' (manyV ps j (H, zs, -1, -1)).2.1 (manyV ps j (H, zs, -1, -1)).1 rn fa) ∧ Below B.base W3 wr) (fun k _ => N - (intOf k).toNat)
  case atStart => exact ⟨0, Nat.zero_le _, rfl, ⟨_, _, _, _, R3.out⟩, Below.refl _ _⟩
  case round =>
    obtain ⟨j, hj, rfl, ⟨i3, o3, rn3, fa3, hr3⟩, hb3⟩ := hrel
    have SJ : Hid (Sn (manyV ps j (H, zs, -1, -1)).1 ps (manyV ps j (H, zs, -1, -1)).2.1 p) := manyV_sn (x := (H, zs, -1, -1)) j SN.out
    have HB3 : Hid (Below B.base W3 wr) := hb3
    by_cases hlt : j < N
    · have hI : (j : Int) < (N : Int) := by omega
      have J : Hid (j < N) := hlt
      obtain ⟨ca, hca⟩ : ∃ ca, (manyV ps j (H, zs, -1, -1)).2.2.1 = ca := ⟨_, rfl⟩
      obtain ⟨ra, hra⟩ : ∃ ra, (manyV ps j (H, zs, -1, -1)).2.2.2 = ra := ⟨_, rfl⟩
      have CR : Hid ((manyV ps j (H, zs, -1, -1)).2.2.1 = ca ∧ (manyV ps j (H, zs, -1, -1)).2.2.2 = ra) := ⟨hca, hra⟩
      rw [hca, hra] at hr3
      have HR : Hid (Bs wr { B with kx := some (t, #[.int .i64 0, .int .i64 ca, .int .i64 ra, .slice none 0 0, .int .i64 0, .slice none 0 0, .bool false, .bool false, .bool false, .int .i64 0, .slice none 0 0, .slice none 0 0, .slice none 0 0], 30) } i3 o3 (manyV ps j (H, zs, -1, -1)).2.1 (manyV ps j (H, zs, -1, -1)).1 rn3 fa3) := hr3
      have SP : Hid (manyV ps (j + 1) (H, zs, -1, -1) = _) := stepV_split SJ.out.hok ps (manyV ps j (H, zs, -1, -1)).2.1 (manyV ps j (H, zs, -1, -1)).2.2.1 (manyV ps j (H, zs, -1, -1)).2.2.2
      obtain ⟨fa, hfa⟩ : ∃ fa, (stepV (manyV ps j (H, zs, -1, -1)).1 ps (manyV ps j (H, zs, -1, -1)).2.1 (-1) (-1)).2.2.1 = fa := ⟨_, rfl⟩
      obtain ⟨rn, hrn⟩ : ∃ rn, (stepV (manyV ps j (H, zs, -1, -1)).1 ps (manyV ps j (H, zs, -1, -1)).2.1 (-1) (-1)).2.2.2 = rn := ⟨_, rfl⟩
      have e1 : (stepV (manyV ps j (H, zs, -1, -1)).1 ps (manyV ps j (H, zs, -1, -1)).2.1 (-1) (-1)).1 = (manyV ps (j + 1) (H, zs, -1, -1)).1 := by rw [SP.out]
      have e2 : (stepV (manyV ps j (H, zs, -1, -1)).1 ps (manyV ps j (H, zs, -1, -1)).2.1 (-1) (-1)).2.1 = (manyV ps (j + 1) (H, zs, -1, -1)).2.1 := by rw [SP.out]
      have SF : Hid (((stepV (manyV ps j (H, zs, -1, -1)).1 ps (manyV ps j (H, zs, -1, -1)).2.1 (-1) (-1)).1 = (manyV ps (j + 1) (H, zs, -1, -1)).1 ∧ (stepV (manyV ps j (H, zs, -1, -1)).1 ps (manyV ps j (H, zs, -1, -1)).2.1 (-1) (-1)).2.1 = (manyV ps (j + 1) (H, zs, -1, -1)).2.1) ∧ (stepV (manyV ps j (H, zs, -1, -1)).1 ps (manyV ps j (H, zs, -1, -1)).2.1 (-1) (-1)).2.2.1 = fa ∧ (stepV (manyV ps j (H, zs, -1, -1)).1 ps (manyV ps j (H, zs, -1, -1)).2.1 (-1) (-1)).2.2.2 = rn) := ⟨⟨e1, e2⟩, hfa, hrn⟩
      have STEP := z_step HR.out (by show Sn _ B.ps _ B.p; rw [HB.out.1, HB.out.2.1]; exact SJ.out)
      have e0 : stepV (manyV ps j (H, zs, -1, -1)).1 ({ B with kx := some (t, #[.int .i64 0, .int .i64 ca, .int .i64 ra, .slice none 0 0, .int .i64 0, .slice none 0 0, .bool false, .bool false, .bool false, .int .i64 0, .slice none 0 0, .slice none 0 0, .slice none 0 0], 30) } : Bp).ps (manyV ps j (H, zs, -1, -1)).2.1 (-1) (-1) = (stepV (manyV ps j (H, zs, -1, -1)).1 ps (manyV ps j (H, zs, -1, -1)).2.1 (-1) (-1)) := by rw [show ({ B with kx := some (t, #[.int .i64 0, .int .i64 ca, .int .i64 ra, .slice none 0 0, .int .i64 0, .slice none 0 0, .bool false, .bool false, .bool false, .int .i64 0, .slice none 0 0, .slice none 0 0, .slice none 0 0], 30) } : Bp).ps = ps from HB.out.1]
      rw [e0, e1, e2, hfa, hrn] at STEP
      clear e0
      clear hlt hca hra hr3 hb3 hfa hrn e1 e2
      go_upto_region 12 with (go_at_call 26; refine STEP.mono ?_; clear STEP; rintro e w4 ⟨rfl, i4, o4, r4, b4⟩)
      have R4 : Hid (Bs w4 { B with kx := some (t, #[.int .i64 0, .int .i64 ca, .int .i64 ra, .slice none 0 0, .int .i64 0, .slice none 0 0, .bool false, .bool false, .bool false, .int .i64 0, .slice none 0 0, .slice none 0 0, .slice none 0 0], 30) } i4 o4 (manyV ps (j + 1) (H, zs, -1, -1)).2.1 (manyV ps (j + 1) (H, zs, -1, -1)).1 rn fa) := r4
      have B4 : Hid (Below B.base W3 w4) := HB3.out.trans b4
      clear r4 b4 HR HB3
      have v4 := (R4.out.kp t _ _ rfl).1
      have t1 : w4.cell? ⟨t, 1, none⟩ = some (.int .i64 ca) := v4.cell 1 rfl
      have g1 := v4.free 1
      have c12 : w4.cell? ⟨B.q, 12, none⟩ = some (.int .i64 fa) := R4.out.v.cell 12 rfl
      have c2 : w4.cell? ⟨B.q, 2, none⟩ = some (.int .i64 rn) := R4.out.v.cell 2 rfl
      clear v4
      by_cases hc : 0 ≤ fa
      · have CA : Hid ((manyV ps (j + 1) (H, zs, -1, -1)).2.2.1 = fa) := by show _ = _; rw [SP.out]; show (if 0 ≤ (stepV (manyV ps j (H, zs, -1, -1)).1 ps (manyV ps j (H, zs, -1, -1)).2.1 (-1) (-1)).2.2.1 then (stepV (manyV ps j (H, zs, -1, -1)).1 ps (manyV ps j (H, zs, -1, -1)).2.1 (-1) (-1)).2.2.1 else _) = fa; rw [SF.out.2.1, if_pos hc]
        have K1 := R4.out.kset t #[.int .i64 0, .int .i64 ca, .int .i64 ra, .slice none 0 0, .int .i64 0, .slice none 0 0, .bool false, .bool false, .bool false, .int .i64 0, .slice none 0 0, .slice none 0 0, .slice none 0 0] 30 rfl TB.out 1 (.int .i64 fa)
        have R5 : Hid (Bs (w4.setCell ⟨t, 1, none⟩ (.int .i64 fa)) { B with kx := some (t, #[.int .i64 0, .int .i64 fa, .int .i64 ra, .slice none 0 0, .int .i64 0, .slice none 0 0, .bool false, .bool false, .bool false, .int .i64 0, .slice none 0 0, .slice none 0 0, .slice none 0 0], 30) } i4 o4 (manyV ps (j + 1) (H, zs, -1, -1)).2.1 (manyV ps (j + 1) (H, zs, -1, -1)).1 rn fa) := K1.1
        have B5 : Hid (Below B.base W3 (w4.setCell ⟨t, 1, none⟩ (.int .i64 fa))) := B4.out.trans K1.2
        clear K1
        go_upto_region 14 with fail
        clear t1 g1 c2 c12
        generalize w4.setCell ⟨t, 1, none⟩ (.int .i64 fa) = w5 at *
        have c2 : w5.cell? ⟨B.q, 2, none⟩ = some (.int .i64 rn) := R5.out.v.cell 2 rfl
        have v5 := (R5.out.kp t _ _ rfl).1
        have t2 : w5.cell? ⟨t, 2, none⟩ = some (.int .i64 ra) := v5.cell 2 rfl
        have g2 := v5.free 2
        clear v5
        by_cases hr : 0 ≤ rn
        · have RA : Hid ((manyV ps (j + 1) (H, zs, -1, -1)).2.2.2 = rn) := by show _ = _; rw [SP.out]; show (if 0 ≤ (stepV (manyV ps j (H, zs, -1, -1)).1 ps (manyV ps j (H, zs, -1, -1)).2.1 (-1) (-1)).2.2.2 then (stepV (manyV ps j (H, zs, -1, -1)).1 ps (manyV ps j (H, zs, -1, -1)).2.1 (-1) (-1)).2.2.2 else _) = rn; rw [SF.out.2.2, if_pos hr]
          have K2 := R5.out.kset t #[.int .i64 0, .int .i64 fa, .int .i64 ra, .slice none 0 0, .int .i64 0, .slice none 0 0, .bool false, .bool false, .bool false, .int .i64 0, .slice none 0 0, .slice none 0 0, .slice none 0 0] 30 rfl TB.out 2 (.int .i64 rn)
          have R6 : Hid (Bs (w5.setCell ⟨t, 2, none⟩ (.int .i64 rn)) { B with kx := some (t, #[.int .i64 0, .int .i64 fa, .int .i64 rn, .slice none 0 0, .int .i64 0, .slice none 0 0, .bool false, .bool false, .bool false, .int .i64 0, .slice none 0 0, .slice none 0 0, .slice none 0 0], 30) } i4 o4 (manyV ps (j + 1) (H, zs, -1, -1)).2.1 (manyV ps (j + 1) (H, zs, -1, -1)).1 rn fa) := K2.1
          have B6 : Hid (Below B.base W3 (w5.setCell ⟨t, 2, none⟩ (.int .i64 rn))) := B5.out.trans K2.2
          clear K2
          go_wp2_with fail
          go_roundw
          case rel => exact ⟨j + 1, by have := J.out; omega, by go_num, ⟨i4, o4, rn, fa, by rw [CA.out, RA.out]; exact R6.out⟩, B6.out⟩
          case measure => have := J.out; simp [intOf]; omega
        · have RA : Hid ((manyV ps (j + 1) (H, zs, -1, -1)).2.2.2 = ra) := by show _ = _; rw [SP.out]; show (if 0 ≤ (stepV (manyV ps j (H, zs, -1, -1)).1 ps (manyV ps j (H, zs, -1, -1)).2.1 (-1) (-1)).2.2.2 then (stepV (manyV ps j (H, zs, -1, -1)).1 ps (manyV ps j (H, zs, -1, -1)).2.1 (-1) (-1)).2.2.2 else _) = ra; rw [SF.out.2.2, if_neg hr]; exact CR.out.2
          go_wp2_with fail
          go_roundw
          case rel => exact ⟨j + 1, by have := J.out; omega, by go_num, ⟨i4, o4, rn, fa, by rw [CA.out, RA.out]; exact R5.out⟩, B5.out⟩
          case measure => have := J.out; simp [intOf]; omega
      · have CA : Hid ((manyV ps (j + 1) (H, zs, -1, -1)).2.2.1 = ca) := by show _ = _; rw [SP.out]; show (if 0 ≤ (stepV (manyV ps j (H, zs, -1, -1)).1 ps (manyV ps j (H, zs, -1, -1)).2.1 (-1) (-1)).2.2.1 then (stepV (manyV ps j (H, zs, -1, -1)).1 ps (manyV ps j (H, zs, -1, -1)).2.1 (-1) (-1)).2.2.1 else _) = ca; rw [SF.out.2.1, if_neg hc]; exact CR.out.1
        have R5 : Hid (Bs w4 { B with kx := some (t, #[.int .i64 0, .int .i64 ca, .int .i64 ra, .slice none 0 0, .int .i64 0, .slice none 0 0, .bool false, .bool false, .bool false, .int .i64 0, .slice none 0 0, .slice none 0 0, .slice none 0 0], 30) } i4 o4 (manyV ps (j + 1) (H, zs, -1, -1)).2.1 (manyV ps (j + 1) (H, zs, -1, -1)).1 rn fa) := R4.out
        have B5 := B4
        go_upto_region 14 with fail
        clear t1 g1 c2 c12
        generalize w4 = w5 at *
        have c2 : w5.cell? ⟨B.q, 2, none⟩ = some (.int .i64 rn) := R5.out.v.cell 2 rfl
        have v5 := (R5.out.kp t _ _ rfl).1
        have t2 : w5.cell? ⟨t, 2, none⟩ = some (.int .i64 ra) := v5.cell 2 rfl
        have g2 := v5.free 2
        clear v5
        by_cases hr : 0 ≤ rn
        · have RA : Hid ((manyV ps (j + 1) (H, zs, -1, -1)).2.2.2 = rn) := by show _ = _; rw [SP.out]; show (if 0 ≤ (stepV (manyV ps j (H, zs, -1, -1)).1 ps (manyV ps j (H, zs, -1, -1)).2.1 (-1) (-1)).2.2.2 then (stepV (manyV ps j (H, zs, -1, -1)).1 ps (manyV ps j (H, zs, -1, -1)).2.1 (-1) (-1)).2.2.2 else _) = rn; rw [SF.out.2.2, if_pos hr]
          have K2 := R5.out.kset t #[.int .i64 0, .int .i64 ca, .int .i64 ra, .slice none 0 0, .int .i64 0, .slice none 0 0, .bool false, .bool false, .bool false, .int .i64 0, .slice none 0 0, .slice none 0 0, .slice none 0 0] 30 rfl TB.out 2 (.int .i64 rn)
          have R6 : Hid (Bs (w5.setCell ⟨t, 2, none⟩ (.int .i64 rn)) { B with kx := some (t, #[.int .i64 0, .int .i64 ca, .int .i64 rn, .slice none 0 0, .int .i64 0, .slice none 0 0, .bool false, .bool false, .bool false, .int .i64 0, .slice none 0 0, .slice none 0 0, .slice none 0 0], 30) } i4 o4 (manyV ps (j + 1) (H, zs, -1, -1)).2.1 (manyV ps (j + 1) (H, zs, -1, -1)).1 rn fa) := K2.1
          have B6 : Hid (Below B.base W3 (w5.setCell ⟨t, 2, none⟩ (.int .i64 rn))) := B5.out.trans K2.2
          clear K2
          go_wp2_with fail
          go_roundw
          case rel => exact ⟨j + 1, by have := J.out; omega, by go_num, ⟨i4, o4, rn, fa, by rw [CA.out, RA.out]; exact R6.out⟩, B6.out⟩
          case measure => have := J.out; simp [intOf]; omega
        · have RA : Hid ((manyV ps (j + 1) (H, zs, -1, -1)).2.2.2 = ra) := by show _ = _; rw [SP.out]; show (if 0 ≤ (stepV (manyV ps j (H, zs, -1, -1)).1 ps (manyV ps j (H, zs, -1, -1)).2.1 (-1) (-1)).2.2.2 then (stepV (manyV ps j (H, zs, -1, -1)).1 ps (manyV ps j (H, zs, -1, -1)).2.1 (-1) (-1)).2.2.2 else _) = ra; rw [SF.out.2.2, if_neg hr]; exact CR.out.2
          go_wp2_with fail
          go_roundw
          case rel => exact ⟨j + 1, by have := J.out; omega, by go_num, ⟨i4, o4, rn, fa, by rw [CA.out, RA.out]; exact R5.out⟩, B5.out⟩
          case measure => have := J.out; simp [intOf]; omega
    · have hI : ¬ (j : Int) < (N : Int) := by omega
      obtain rfl : j = N := by omega
      rw [HY.out] at hr3
      have R5 : Hid (Bs wr { B with kx := some (t, #[.int .i64 0, .int .i64 Y.2.2.1, .int .i64 Y.2.2.2, .slice none 0 0, .int .i64 0, .slice none 0 0, .bool false, .bool false, .bool false, .int .i64 0, .slice none 0 0, .slice none 0 0, .slice none 0 0], 30) } i3 o3 Y.2.1 Y.1 rn3 fa3) := hr3
      have B5 : Hid (Below w.heap.size w wr) := B3.out.trans (bless HB3.out (by rw [HB.out.2.2]; exact L1.out.2))
      have VR5 : Hid (Vb wr (s + 1) #[.int .i64 0, .int .i64 0, .int .i64 0, .slice none 0 0, .int .i64 0, .slice none 0 0, .bool false, .bool false, .bool false, .int .i64 0, .slice none 0 0, .slice none 0 0, .slice none 0 0] 30) := by
        show _ = _
        rw [HB3.out.block (s + 1) (by rw [HB.out.2.2]; have := L1.out.1; omega)]
        exact VR3.out
      clear hr3 hb3 hlt hj HY HB3 B3 VR3 R3 SJ
      obtain ⟨xa2, xk2, e2, _⟩ := R5.out.hi.shape
      obtain ⟨bo, _, _, ho, _⟩ := R5.out.ho
      obtain ⟨xa3, xk3, e3, _⟩ := ho.shape
      clear ho
      subst e2 e3
      generalize hn2 : Y.1.inn.length = m2 at *
      generalize hn3 : Y.1.out.length = m3 at *
      clear hn2 hn3
      have v5 := (R5.out.kp t _ _ rfl).1
      have q3 : wr.cell? ⟨B.q, 3, none⟩ = some (.slice (some ⟨B.rg, 0, none⟩) 16 B.rk) := R5.out.v.cell 3 rfl
      have q4 : wr.cell? ⟨B.q, 4, none⟩ = some (.int .i64 Y.1.pc) := R5.out.v.cell 4 rfl
      have q5 : wr.cell? ⟨B.q, 5, none⟩ = some (.slice (some ⟨B.cg, 0, none⟩) 11 B.ck) := R5.out.v.cell 5 rfl
      have q6 : wr.cell? ⟨B.q, 6, none⟩ = some (.bool Y.1.halted) := R5.out.v.cell 6 rfl
      have q7 : wr.cell? ⟨B.q, 7, none⟩ = some (.bool Y.1.waiting) := R5.out.v.cell 7 rfl
      have q8 : wr.cell? ⟨B.q, 8, none⟩ = some (.bool Y.1.rung) := R5.out.v.cell 8 rfl
      have q9 : wr.cell? ⟨B.q, 9, none⟩ = some (.int .i64 Y.1.done) := R5.out.v.cell 9 rfl
      have q10 : wr.cell? ⟨B.q, 10, none⟩ = some (.slice xa2 m2 xk2) := R5.out.v.cell 10 rfl
      have q11 : wr.cell? ⟨B.q, 11, none⟩ = some (.slice xa3 m3 xk3) := R5.out.v.cell 11 rfl
      have q1 : wr.cell? ⟨B.q, 1, none⟩ = some (.slice (some ⟨B.gm, 0, none⟩) (B.p * 8) B.mc) := R5.out.v.cell 1 rfl
      have y3 := v5.free 3
      have y4 := v5.free 4
      have y5 := v5.free 5
      have y6 := v5.free 6
      have y7 := v5.free 7
      have y8 := v5.free 8
      have y9 := v5.free 9
      have y10 := v5.free 10
      have y11 := v5.free 11
      have y12 := v5.free 12
      have p3 := v5.cell 3 rfl
      have p4 := v5.cell 4 rfl
      have p5 := v5.cell 5 rfl
      have p6 := v5.cell 6 rfl
      have p7 := v5.cell 7 rfl
      have p8 := v5.cell 8 rfl
      have p9 := v5.cell 9 rfl
      have p10 := v5.cell 10 rfl
      have p11 := v5.cell 11 rfl
      have p12 := v5.cell 12 rfl
      have NN : Hid (_ ∧ _) := nineAt3 v5 (.slice (some ⟨B.rg, 0, none⟩) 16 B.rk) (.int .i64 Y.1.pc) (.slice (some ⟨B.cg, 0, none⟩) 11 B.ck) (.bool Y.1.halted) (.bool Y.1.waiting) (.bool Y.1.rung) (.int .i64 Y.1.done) (.slice xa2 m2 xk2) (.slice xa3 m3 xk3)
      have V6 : Hid (Vb ((((((((((wr.setCell ⟨t, 3, none⟩ (.slice (some ⟨B.rg, 0, none⟩) 16 B.rk)).setCell ⟨t, 4, none⟩ (.int .i64 Y.1.pc)).setCell ⟨t, 5, none⟩ (.slice (some ⟨B.cg, 0, none⟩) 11 B.ck)).setCell ⟨t, 6, none⟩ (.bool Y.1.halted)).setCell ⟨t, 7, none⟩ (.bool Y.1.waiting)).setCell ⟨t, 8, none⟩ (.bool Y.1.rung)).setCell ⟨t, 9, none⟩ (.int .i64 Y.1.done)).setCell ⟨t, 10, none⟩ (.slice xa2 m2 xk2)).setCell ⟨t, 11, none⟩ (.slice xa3 m3 xk3)).setCell ⟨t, 12, none⟩ (.slice (some ⟨B.gm, 0, none⟩) (B.p * 8) B.mc)) t #[.int .i64 0, .int .i64 Y.2.2.1, .int .i64 Y.2.2.2, .slice (some ⟨B.rg, 0, none⟩) 16 B.rk, .int .i64 Y.1.pc, .slice (some ⟨B.cg, 0, none⟩) 11 B.ck, .bool Y.1.halted, .bool Y.1.waiting, .bool Y.1.rung, .int .i64 Y.1.done, .slice xa2 m2 xk2, .slice xa3 m3 xk3, .slice (some ⟨B.gm, 0, none⟩) (B.p * 8) B.mc] 30) := NN.out.1.set 12 _
      have M6 : Hid (Mq (fun k => k = t) wr ((((((((((wr.setCell ⟨t, 3, none⟩ (.slice (some ⟨B.rg, 0, none⟩) 16 B.rk)).setCell ⟨t, 4, none⟩ (.int .i64 Y.1.pc)).setCell ⟨t, 5, none⟩ (.slice (some ⟨B.cg, 0, none⟩) 11 B.ck)).setCell ⟨t, 6, none⟩ (.bool Y.1.halted)).setCell ⟨t, 7, none⟩ (.bool Y.1.waiting)).setCell ⟨t, 8, none⟩ (.bool Y.1.rung)).setCell ⟨t, 9, none⟩ (.int .i64 Y.1.done)).setCell ⟨t, 10, none⟩ (.slice xa2 m2 xk2)).setCell ⟨t, 11, none⟩ (.slice xa3 m3 xk3)).setCell ⟨t, 12, none⟩ (.slice (some ⟨B.gm, 0, none⟩) (B.p * 8) B.mc))) := NN.out.2.set ⟨t, 12, none⟩ _ rfl
      have TQ : t ≠ B.q := (R5.out.kp t _ _ rfl).2.2.1
      have c1 : ((((((((((wr.setCell ⟨t, 3, none⟩ (.slice (some ⟨B.rg, 0, none⟩) 16 B.rk)).setCell ⟨t, 4, none⟩ (.int .i64 Y.1.pc)).setCell ⟨t, 5, none⟩ (.slice (some ⟨B.cg, 0, none⟩) 11 B.ck)).setCell ⟨t, 6, none⟩ (.bool Y.1.halted)).setCell ⟨t, 7, none⟩ (.bool Y.1.waiting)).setCell ⟨t, 8, none⟩ (.bool Y.1.rung)).setCell ⟨t, 9, none⟩ (.int .i64 Y.1.done)).setCell ⟨t, 10, none⟩ (.slice xa2 m2 xk2)).setCell ⟨t, 11, none⟩ (.slice xa3 m3 xk3))).cell? ⟨B.q, 1, none⟩ = some (.slice (some ⟨B.gm, 0, none⟩) (B.p * 8) B.mc) := (NN.out.2.vb R5.out.v (fun e => TQ e.symm)).cell 1 rfl
      clear v5
      go_upto_region 18 with fail
      clear q1 q3 q4 q5 q6 q7 q8 q9 q10 q11 y3 y4 y5 y6 y7 y8 y9 y10 y11 y12 p3 p4 p5 p6 p7 p8 p9 p10 p11 p12 c1 NN
      generalize (((((((((wr.setCell ⟨t, 3, none⟩ (.slice (some ⟨B.rg, 0, none⟩) 16 B.rk)).setCell ⟨t, 4, none⟩ (.int .i64 Y.1.pc)).setCell ⟨t, 5, none⟩ (.slice (some ⟨B.cg, 0, none⟩) 11 B.ck)).setCell ⟨t, 6, none⟩ (.bool Y.1.halted)).setCell ⟨t, 7, none⟩ (.bool Y.1.waiting)).setCell ⟨t, 8, none⟩ (.bool Y.1.rung)).setCell ⟨t, 9, none⟩ (.int .i64 Y.1.done)).setCell ⟨t, 10, none⟩ (.slice xa2 m2 xk2)).setCell ⟨t, 11, none⟩ (.slice xa3 m3 xk3)).setCell ⟨t, 12, none⟩ (.slice (some ⟨B.gm, 0, none⟩) (B.p * 8) B.mc) = w6 at *
      have VR6 : Hid (Vb w6 (s + 1) #[.int .i64 0, .int .i64 0, .int .i64 0, .slice none 0 0, .int .i64 0, .slice none 0 0, .bool false, .bool false, .bool false, .int .i64 0, .slice none 0 0, .slice none 0 0, .slice none 0 0] 30) := M6.out.vb VR5.out (by have := TB.out; rw [HB.out.2.2] at this; have := L1.out.1; omega)
      have B6 : Hid (Below w.heap.size w w6) := Mq.under B5.out M6.out fun k e => by have := TB.out; rw [HB.out.2.2] at this; have := L1.out.2; omega
      have HU : Hid (∀ k, (Own4 (.slice (some ⟨B.rg, 0, none⟩) 16 B.rk) (.slice (some ⟨B.cg, 0, none⟩) 11 B.ck) (.slice xa2 m2 xk2) (.slice xa3 m3 xk3) k ∨ (Value.slice (some ⟨B.gm, 0, none⟩) (B.p * 8) B.mc).ownBlock = some k) → k < wr.heap.size) := fun k e => by
        obtain ⟨bo, _, _, ho, _⟩ := R5.out.ho
        rcases e with (e | e | e | e) | e
        · exact (R5.out.hr.lt k e).2
        · exact (R5.out.hc.lt k e).2
        · exact (R5.out.ib k e).2.1
        · exact (ho.lt k e).2
        · exact (R5.out.hm.lt k e).2
      have TR6 : Tr w6 w.heap.size (.slice (some ⟨B.rg, 0, none⟩) 16 B.rk) (.slice (some ⟨B.cg, 0, none⟩) 11 B.ck) (.slice xa2 m2 xk2) (.slice xa3 m3 xk3) (.slice (some ⟨B.gm, 0, none⟩) (B.p * 8) B.mc) Y.1 Y.2.1 := by
        have kn := R5.out.kne (x := t) rfl
        have kp := R5.out.kp t _ _ rfl
        obtain ⟨bo, _, _, ho, _⟩ := R5.out.ho
        exact ⟨⟨(M6.out.nums R5.out.hr fun k e f => by have := own_some e; exact kn.1 ((show k = t from f).symm.trans this)).rv, (M6.out.nums R5.out.hc fun k e f => by have := own_some e; exact kn.2.1 ((show k = t from f).symm.trans this)).rv, R5.out.hi.mq M6.out fun k e _ f => kp.2.2.2 (by rw [e, (show k = t from f)]), (M6.out.nums ho fun k e f => kn.2.2.2 (by rw [e, (show k = t from f)])).rv⟩, (M6.out.nums R5.out.hm fun k e f => by have := own_some e; exact kn.2.2.1 ((show k = t from f).symm.trans this)).rv, fun k e => Nat.lt_of_lt_of_le (HU.out k e) M6.out.size⟩
      have T6 : Hid (Tr w6 w.heap.size (.slice (some ⟨B.rg, 0, none⟩) 16 B.rk) (.slice (some ⟨B.cg, 0, none⟩) 11 B.ck) (.slice xa2 m2 xk2) (.slice xa3 m3 xk3) (.slice (some ⟨B.gm, 0, none⟩) (B.p * 8) B.mc) Y.1 Y.2.1) := TR6
      have HO : Hid (∀ k, (Own4 (.slice (some ⟨B.rg, 0, none⟩) 16 B.rk) (.slice (some ⟨B.cg, 0, none⟩) 11 B.ck) (.slice xa2 m2 xk2) (.slice xa3 m3 xk3) k ∨ (Value.slice (some ⟨B.gm, 0, none⟩) (B.p * 8) B.mc).ownBlock = some k) → ¬ k < B.base) := fun k e => by
        rcases e with (e | e | e | e) | e
        · have := (R5.out.hr.lt k e).1; show ¬ _; intro h; exact absurd h (Nat.not_lt.2 this)
        · have := (R5.out.hc.lt k e).1; show ¬ _; intro h; exact absurd h (Nat.not_lt.2 this)
        · have := (R5.out.ib k e).1; show ¬ _; intro h; exact absurd h (Nat.not_lt.2 this)
        · have := (R5.out.ob k e).1; show ¬ _; intro h; exact absurd h (Nat.not_lt.2 this)
        · have := (R5.out.hm.lt k e).1; show ¬ _; intro h; exact absurd h (Nat.not_lt.2 this)
      clear TR6 TQ R5 VR5 B5 M6
      have p0 := V6.out.cell 0 rfl
      have p1 := V6.out.cell 1 rfl
      have p2 := V6.out.cell 2 rfl
      have p3 := V6.out.cell 3 rfl
      have p4 := V6.out.cell 4 rfl
      have p5 := V6.out.cell 5 rfl
      have p6 := V6.out.cell 6 rfl
      have p7 := V6.out.cell 7 rfl
      have p8 := V6.out.cell 8 rfl
      have p9 := V6.out.cell 9 rfl
      have p10 := V6.out.cell 10 rfl
      have p11 := V6.out.cell 11 rfl
      have p12 := V6.out.cell 12 rfl
      have y0 := VR6.out.cell 0 rfl
      have y1 := VR6.out.cell 1 rfl
      have y2 := VR6.out.cell 2 rfl
      have y3 := VR6.out.cell 3 rfl
      have y4 := VR6.out.cell 4 rfl
      have y5 := VR6.out.cell 5 rfl
      have y6 := VR6.out.cell 6 rfl
      have y7 := VR6.out.cell 7 rfl
      have y8 := VR6.out.cell 8 rfl
      have y9 := VR6.out.cell 9 rfl
      have y10 := VR6.out.cell 10 rfl
      have y11 := VR6.out.cell 11 rfl
      have y12 := VR6.out.cell 12 rfl
      have f0 := VR6.out.free 0
      have f1 := VR6.out.free 1
      have f2 := VR6.out.free 2
      have f3 := VR6.out.free 3
      have f4 := VR6.out.free 4
      have f5 := VR6.out.free 5
      have f6 := VR6.out.free 6
      have f7 := VR6.out.free 7
      have f8 := VR6.out.free 8
      have f9 := VR6.out.free 9
      have f10 := VR6.out.free 10
      have f11 := VR6.out.free 11
      have f12 := VR6.out.free 12
      have NR : Hid (_ ∧ _) := thirteenX VR6.out (.int .i64 0) (.int .i64 Y.2.2.1) (.int .i64 Y.2.2.2) (.slice (some ⟨B.rg, 0, none⟩) 16 B.rk) (.int .i64 Y.1.pc) (.slice (some ⟨B.cg, 0, none⟩) 11 B.ck) (.bool Y.1.halted) (.bool Y.1.waiting) (.bool Y.1.rung) (.int .i64 Y.1.done) (.slice xa2 m2 xk2) (.slice xa3 m3 xk3) (.slice (some ⟨B.gm, 0, none⟩) (B.p * 8) B.mc)
      go_wp2_with fail
      clear p0 p1 p2 p3 p4 p5 p6 p7 p8 p9 p10 p11 p12 y0 y1 y2 y3 y4 y5 y6 y7 y8 y9 y10 y11 y12 f0 f1 f2 f3 f4 f5 f6 f7 f8 f9 f10 f11 f12
      generalize (((((((((((((w6.setCell ⟨s + 1, 0, none⟩ (.int .i64 0)).setCell ⟨s + 1, 1, none⟩ (.int .i64 Y.2.2.1)).setCell ⟨s + 1, 2, none⟩ (.int .i64 Y.2.2.2)).setCell ⟨s + 1, 3, none⟩ (.slice (some ⟨B.rg, 0, none⟩) 16 B.rk)).setCell ⟨s + 1, 4, none⟩ (.int .i64 Y.1.pc)).setCell ⟨s + 1, 5, none⟩ (.slice (some ⟨B.cg, 0, none⟩) 11 B.ck)).setCell ⟨s + 1, 6, none⟩ (.bool Y.1.halted)).setCell ⟨s + 1, 7, none⟩ (.bool Y.1.waiting)).setCell ⟨s + 1, 8, none⟩ (.bool Y.1.rung)).setCell ⟨s + 1, 9, none⟩ (.int .i64 Y.1.done)).setCell ⟨s + 1, 10, none⟩ (.slice xa2 m2 xk2)).setCell ⟨s + 1, 11, none⟩ (.slice xa3 m3 xk3)).setCell ⟨s + 1, 12, none⟩ (.slice (some ⟨B.gm, 0, none⟩) (B.p * 8) B.mc)) = V at *
      have x0 := NR.out.1.cell 0 rfl
      have x1 := NR.out.1.cell 1 rfl
      have x2 := NR.out.1.cell 2 rfl
      have x3 := NR.out.1.cell 3 rfl
      have x4 := NR.out.1.cell 4 rfl
      have x5 := NR.out.1.cell 5 rfl
      have x6 := NR.out.1.cell 6 rfl
      have x7 := NR.out.1.cell 7 rfl
      have x8 := NR.out.1.cell 8 rfl
      have x9 := NR.out.1.cell 9 rfl
      have x10 := NR.out.1.cell 10 rfl
      have x11 := NR.out.1.cell 11 rfl
      have x12 := NR.out.1.cell 12 rfl
      exact bodyPost_ret (v := .agg #[.int .i64 0, .int .i64 Y.2.2.1, .int .i64 Y.2.2.2, .slice (some ⟨B.rg, 0, none⟩) 16 B.rk, .int .i64 Y.1.pc, .slice (some ⟨B.cg, 0, none⟩) 11 B.ck, .bool Y.1.halted, .bool Y.1.waiting, .bool Y.1.rung, .int .i64 Y.1.done, .slice xa2 m2 xk2, .slice xa3 m3 xk3, .slice (some ⟨B.gm, 0, none⟩) (B.p * 8) B.mc]) (by simp [results, Tryz.results21, go_sem, x0, x1, x2, x3, x4, x5, x6, x7, x8, x9, x10, x11, x12]) rfl
        ⟨_, _, _, _, _, rfl, T6.out.mq NR.out.2 fun k e f => HO.out k e (by have := L1.out.1; have f' : k = s + 1 := f; rw [HB.out.2.2]; omega), Mq.under B6.out NR.out.2 fun k e => by have := HS.out; omega⟩
theorem s_stepMany (r c i o : Value) (H : Ht) (pa : Option Addr) (pn pc : Nat) (ps : List (Int × Int)) (ma : Option Addr) (mn mc : Nat) (zs : List Int) (n : Int) (b : Nat) (w : World) (h : Hm w b r c i o H) (hP : Prs 55 w b (.slice pa pn pc) ps) (hl : ps.length ≤ 1048576) (hM : Nums w b (.slice ma mn mc) zs) (hm : zs.length ≤ 1048576) :
    Calls Tryz.prog 21 #[.agg #[r, .int .i64 H.pc, c, .bool H.halted, .bool H.waiting, .bool H.rung, .int .i64 H.done, i, o], .slice pa pn pc, .slice ma mn mc, .int .i64 n] w fun e w' => ∃ r' c' i' o' m', e = .returned (.agg #[.int .i64 (smV H ps zs n).code, .int .i64 (smV H ps zs n).ca, .int .i64 (smV H ps zs n).ri, r', .int .i64 (smV H ps zs n).H.pc, c', .bool (smV H ps zs n).H.halted, .bool (smV H ps zs n).H.waiting, .bool (smV H ps zs n).H.rung, .int .i64 (smV H ps zs n).H.done, i', o', m']) ∧ Tr w' w.heap.size r' c' i' o' m' (smV H ps zs n).H (smV H ps zs n).zs ∧ Below w.heap.size w w' := by
  by_cases hf : seenC H ps zs = 0
  · by_cases hn : 0 ≤ n ∧ n ≤ 500
    · exact sm_good r c i o H pa pn pc ps ma mn mc zs n b w h hP hl hM hm hf hn
    · exact sm_range r c i o H pa pn pc ps ma mn mc zs n b w h hP hl hM hm hf hn
  · exact sm_bad r c i o H pa pn pc ps ma mn mc zs n b w h hP hl hM hm hf
end Go.Proofs.YtcbcbgomafeccaaGreatDoor
