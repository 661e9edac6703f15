/- Texts of this seat, joined. -/
import Derived.Test.YtaefollmeoepkaaGreatDoorQ43
namespace Go.Proofs.YtaefollmeoepkaaGreatDoor
open Go.RowKit
set_option linter.unusedVariables false
theorem done_hok {G : Ht} (K : Hok G) {n : Int} (hn : isW n = true) : Hok { G with pc := n } :=
  ⟨K.r16, K.c11, K.r0, K.rw, hn, K.cw, K.iw, K.ow, K.i40, K.o40, K.d0, K.d9, K.st⟩
theorem more_hok {G : Ht} (K : Hok G) : Hok { G with done := min (G.done + 1) 1000000000 } :=
  ⟨K.r16, K.c11, K.r0, K.rw, K.pw, K.cw, K.iw, K.ow, K.i40, K.o40, by have := K.d0; show 0 ≤ min (G.done + 1) 1000000000; omega, by show min (G.done + 1) 1000000000 ≤ _; omega, K.st⟩
theorem mcr_more (H : Ht) (i o l pg : Value) (ca ri : Int) (u : Int) : (mcr H i o l pg ca ri).setIfInBounds 31 (.int .i64 u) = mcr { H with done := u } i o l pg ca ri := rfl
set_option maxRecDepth 20000 in
set_option maxHeartbeats 4000000 in
theorem step_trap {w : World} {base q : Nat} {i o : Value} {pg pc : Nat} {ps : List (Int × Int)} {g p : Nat} {zs : List Int} {X : Nat → Prop} {H : Ht} {ca ri : Int} (R : Rw w base q i o pg pc ps g p zs H ca ri X) (hh : H.halted = false) (hd : dueV H < 0) (hw : (waitV H).waiting = false) (hz : plC (waitV H) ps zs H.pc 4 = 0) (op : Int) (d a : Nat) (im : Int) (hc : decV (fetZ (waitV H) ps zs) = .agg #[.int .i64 0, .int .i64 op, .int .i64 (d : Int), .int .i64 (a : Int), .int .i64 im]) (hi : insC op d a im = 0) (c t n : Int) (G : Ht) (ys : List Int) (rj : Int) (hx : (doV (waitV H) ps zs ri op d a im) = ⟨some (c, t), n, G, ys, rj⟩) (hv : stepV H ps zs ca ri = (trapV G c t, ys, c, rj)) :
    Calls Tryz.prog 36 #[.pointer (some ⟨q, 0, none⟩)] w fun e w' => e = .returned (.tuple #[]) ∧ ∃ i' o', Rw w' base q i' o' pg pc ps g p (stepV H ps zs ca ri).2.1 (stepV H ps zs ca ri).1 (stepV H ps zs ca ri).2.2.1 (stepV H ps zs ca ri).2.2.2 (fun _ => False) ∧ Below base w w' := by
  have HZ : Hid (plC (waitV H) ps zs H.pc 4 = 0 ∧ decV (fetZ (waitV H) ps zs) = .agg #[.int .i64 0, .int .i64 op, .int .i64 (d : Int), .int .i64 (a : Int), .int .i64 im]) := ⟨hz, hc⟩
  have HI : Hid (insC op d a im = 0) := hi
  have HDW : Hid (Hok (waitV H) → Wd (doV (waitV H) ps zs ri op d a im)) := fun K => doV_word K ps zs ri op d a im
  clear hz hc hi
  have HX : Hid ((doV (waitV H) ps zs ri op d a im) = ⟨some (c, t), n, G, ys, rj⟩) := hx
  clear hx
  rw [hv]
  have hmf : ∀ (fn : Fn) (first cap : Array Value) (w : World), (Instr.makeFunc fn first cap).run Tryz.prog w = .ok (.func fn first cap) w := fun _ _ _ _ => rfl
  obtain ⟨b, hb⟩ : ∃ b, w.heap.size = b := ⟨_, rfl⟩
  obtain ⟨W, hW⟩ : ∃ W, (w.alloc (.cells #[.pointer (some ⟨q, 0, none⟩)] 114)) = W := ⟨_, rfl⟩
  have RW0 : Hid (Rw W base q i o pg pc ps g p zs H ca ri (fun k => k = b)) := by show Rw _ _ _ _ _ _ _ _ _ _ _ _ _ _ _; rw [← hW]; exact R.box b hb
  have BW0 : Hid (Below base w W) := by show Below _ _ _; rw [← hW]; exact bless (al (Below.refl w.heap.size w) _) R.size
  have cb : W.cell? ⟨b, 0, none⟩ = some (.pointer (some ⟨q, 0, none⟩)) := (RW0.out.bx b rfl).1.cell 0 rfl
  have c28 : W.cell? ⟨q, 28, none⟩ = some (.bool H.halted) := RW0.out.v.cell 28 rfl
  clear R
  rw [hh] at c28
  have HD : Hid (dueV H < 0) := hd
  have hwt : (H.waiting && decide (bothV H = 0)) = false := hw
  clear hh hv hd hw
  refine calls_of_wp_defers Tryz.func36 rfl ?_
  refine Code.wp_mono (stQ_to _) ?_
  simp only [Tryz.ntmps36, List.size_toArray, List.length_cons, List.length_nil, Nat.reduceAdd, Nat.reduceSub, Array.replicate_succ, Array.replicate_zero, List.push_toArray, List.append_toArray, List.nil_append, List.cons_append]
  go_upto_region 1 with fail
  clear hW hb
  go_wp2_with fail
  refine (r_dueNo RW0.out HD.out).mono ?_
  rintro e x1 ⟨rfl, b1⟩
  have R1 : Hid (Rw x1 base q i o pg pc ps g p zs H ca ri (fun k => k = b)) := RW0.out.keep b1
  have B1 : Hid (Below base w x1) := BW0.out.trans (bless b1 RW0.out.size)
  clear cb c28 b1
  have cb : x1.cell? ⟨b, 0, none⟩ = some (.pointer (some ⟨q, 0, none⟩)) := (R1.out.bx b rfl).1.cell 0 rfl
  go_wp2_with fail
  refine (r_waits R1.out).mono ?_
  rintro e x2 ⟨he, r2, b2⟩
  rw [hwt] at he
  subst he
  have R2 : Hid (Rw x2 base q i o pg pc ps g p zs (waitV H) ca ri (fun k => k = b)) := r2
  have B2 : Hid (Below base w x2) := B1.out.trans b2
  clear cb r2 b2
  clear hwt
  go_upto_region 5 with fail
  have S0 : Hid (x2.drew.cell? ⟨b, 0, none⟩ = some (.pointer (some ⟨q, 0, none⟩))) := (R2.out.bx b rfl).1.cell 0 rfl
  have R3 : Hid (Rw x2.drew base q i o pg pc ps g p zs (waitV H) ca ri (fun k => k = b)) := R2.out.keep (Below.refl _ _).drew
  have B3 : Hid (Below base w x2.drew) := B2.out.drew
  refine wp_region_held (S := fun w' => w'.cell? ⟨b, 0, none⟩ = some (.pointer (some ⟨q, 0, none⟩))) (by kernel_rfl) ?_
  change wpAnyH _ _ _ _ _ _ _ _ (World.drew _)
  generalize x2.drew = x0 at *
  refine wpTk (i := 0) (v := .pointer (some ⟨q, 0, none⟩)) rfl (Or.inl ⟨by rfl, fun w' hs => by have hc := hs; go_simp⟩) S0.out ?_
  change wpAnyH _ _ _ _ _ _ _ (Act.put _ (some 12) _) _
  simp only [Act.put, zT, zZ, zS]
  refine wpTk (i := 1) (v := .pointer (some ⟨q, 0, none⟩)) rfl (Or.inl ⟨by rfl, fun w' hs => by have hc := hs; go_simp⟩) S0.out ?_
  change wpAnyH _ _ _ _ _ _ _ (Act.put _ (some 13) _) _
  simp only [Act.put, zT, zZ, zS]
  refine wpTk (i := 2) (v := .pointer (some ⟨q, 0, none⟩)) rfl (Or.inl ⟨by rfl, fun w' hs => by have hc := hs; go_simp⟩) S0.out ?_
  change wpAnyH _ _ _ _ _ _ _ (Act.put _ (some 14) _) _
  simp only [Act.put, zT, zZ, zS]
  refine zR 3 rfl fun K hK => ?_
  rw [if_pos (by rfl)]
  go_simp
  refine (r_fetch R3.out HZ.out.1 0 op d a im HZ.out.2).mono ?_
  rintro e x1 ⟨he, b2⟩
  rw [if_pos rfl] at he
  subst he
  have R4 : Hid (Rw x1 base q i o pg pc ps g p zs (waitV H) ca ri (fun k => k = b)) := R3.out.keep b2
  have B4 : Hid (Below base w x1) := B3.out.trans (bless b2 R3.out.size)
  clear b2
  have S1 : Hid (x1.cell? ⟨b, 0, none⟩ = some (.pointer (some ⟨q, 0, none⟩))) := (R4.out.bx b rfl).1.cell 0 rfl
  refine hK.out _ _ S1.out (fun _ => ?_)
  clear hK K
  refine zR 4 rfl fun K hK => ?_
  rw [if_pos (by rfl)]
  go_simp
  refine (i_deed op d a im x1).mono ?_
  rintro e x3 ⟨rfl, b2⟩
  have R5 : Hid (Rw x3 base q i o pg pc ps g p zs (waitV H) ca ri (fun k => k = b)) := R4.out.keep b2
  have B5 : Hid (Below base w x3) := B4.out.trans (bless b2 R4.out.size)
  clear b2
  have S3 : Hid (x3.cell? ⟨b, 0, none⟩ = some (.pointer (some ⟨q, 0, none⟩))) := (R5.out.bx b rfl).1.cell 0 rfl
  generalize hT : deedT op = T
  refine hK.out _ _ S3.out (fun _ => ?_)
  clear hK K
  refine zR 5 rfl fun K hK => ?_
  rw [if_pos (by rfl)]
  go_simp
  have I := ins_parts HI.out
  rw [← hT]
  refine (r_do R5.out op d a im (by omega) (by omega) I.2.2.2.2.2.2.1 I.2.2.2.2.2.2.2.1 I.1 I.2.1 I.2.2.2.2.2.2.2.2.1 I.2.2.2.2.2.2.2.2.2).mono ?_
  clear I hT
  rintro e x4 ⟨he, i2, o2, r4, b4⟩
  have W1 := (HDW.out R5.out.sn.hok).2 c t (by rw [HX.out])
  rw [HX.out] at he r4
  unfold Dr.e pan at he
  simp only at he
  subst he
  clear hK
  go_wp2_with fail
  exact door_pan2 (b := b) rfl r4 c t W1.1 W1.2.1 W1.2.2 fun x r bb => ⟨rfl, _, _, r, B5.out.trans (b4.trans bb)⟩
set_option maxRecDepth 20000 in
set_option maxHeartbeats 4000000 in
theorem step_done {w : World} {base q : Nat} {i o : Value} {pg pc : Nat} {ps : List (Int × Int)} {g p : Nat} {zs : List Int} {X : Nat → Prop} {H : Ht} {ca ri : Int} (R : Rw w base q i o pg pc ps g p zs H ca ri X) (hh : H.halted = false) (hd : dueV H < 0) (hw : (waitV H).waiting = false) (hz : plC (waitV H) ps zs H.pc 4 = 0) (op : Int) (d a : Nat) (im : Int) (hc : decV (fetZ (waitV H) ps zs) = .agg #[.int .i64 0, .int .i64 op, .int .i64 (d : Int), .int .i64 (a : Int), .int .i64 im]) (hi : insC op d a im = 0) (n : Int) (G : Ht) (ys : List Int) (rj : Int) (hx : (doV (waitV H) ps zs ri op d a im) = ⟨none, n, G, ys, rj⟩) (hv : stepV H ps zs ca ri = ({ G with pc := n, done := min (G.done + 1) 1000000000 }, ys, ca, rj)) :
    Calls Tryz.prog 36 #[.pointer (some ⟨q, 0, none⟩)] w fun e w' => e = .returned (.tuple #[]) ∧ ∃ i' o', Rw w' base q i' o' pg pc ps g p (stepV H ps zs ca ri).2.1 (stepV H ps zs ca ri).1 (stepV H ps zs ca ri).2.2.1 (stepV H ps zs ca ri).2.2.2 (fun _ => False) ∧ Below base w w' := by
  have HZ : Hid (plC (waitV H) ps zs H.pc 4 = 0 ∧ decV (fetZ (waitV H) ps zs) = .agg #[.int .i64 0, .int .i64 op, .int .i64 (d : Int), .int .i64 (a : Int), .int .i64 im]) := ⟨hz, hc⟩
  have HI : Hid (insC op d a im = 0) := hi
  have HDW : Hid (Hok (waitV H) → Wd (doV (waitV H) ps zs ri op d a im)) := fun K => doV_word K ps zs ri op d a im
  clear hz hc hi
  have HX : Hid ((doV (waitV H) ps zs ri op d a im) = ⟨none, n, G, ys, rj⟩) := hx
  clear hx
  rw [hv]
  have hmf : ∀ (fn : Fn) (first cap : Array Value) (w : World), (Instr.makeFunc fn first cap).run Tryz.prog w = .ok (.func fn first cap) w := fun _ _ _ _ => rfl
  obtain ⟨b, hb⟩ : ∃ b, w.heap.size = b := ⟨_, rfl⟩
  obtain ⟨W, hW⟩ : ∃ W, (w.alloc (.cells #[.pointer (some ⟨q, 0, none⟩)] 114)) = W := ⟨_, rfl⟩
  have RW0 : Hid (Rw W base q i o pg pc ps g p zs H ca ri (fun k => k = b)) := by show Rw _ _ _ _ _ _ _ _ _ _ _ _ _ _ _; rw [← hW]; exact R.box b hb
  have BW0 : Hid (Below base w W) := by show Below _ _ _; rw [← hW]; exact bless (al (Below.refl w.heap.size w) _) R.size
  have cb : W.cell? ⟨b, 0, none⟩ = some (.pointer (some ⟨q, 0, none⟩)) := (RW0.out.bx b rfl).1.cell 0 rfl
  have c28 : W.cell? ⟨q, 28, none⟩ = some (.bool H.halted) := RW0.out.v.cell 28 rfl
  clear R
  rw [hh] at c28
  have HD : Hid (dueV H < 0) := hd
  have hwt : (H.waiting && decide (bothV H = 0)) = false := hw
  clear hh hv hd hw
  refine calls_of_wp_defers Tryz.func36 rfl ?_
  refine Code.wp_mono (stQ_to _) ?_
  simp only [Tryz.ntmps36, List.size_toArray, List.length_cons, List.length_nil, Nat.reduceAdd, Nat.reduceSub, Array.replicate_succ, Array.replicate_zero, List.push_toArray, List.append_toArray, List.nil_append, List.cons_append]
  go_upto_region 1 with fail
  clear hW hb
  go_wp2_with fail
  refine (r_dueNo RW0.out HD.out).mono ?_
  rintro e x1 ⟨rfl, b1⟩
  have R1 : Hid (Rw x1 base q i o pg pc ps g p zs H ca ri (fun k => k = b)) := RW0.out.keep b1
  have B1 : Hid (Below base w x1) := BW0.out.trans (bless b1 RW0.out.size)
  clear cb c28 b1
  have cb : x1.cell? ⟨b, 0, none⟩ = some (.pointer (some ⟨q, 0, none⟩)) := (R1.out.bx b rfl).1.cell 0 rfl
  go_wp2_with fail
  refine (r_waits R1.out).mono ?_
  rintro e x2 ⟨he, r2, b2⟩
  rw [hwt] at he
  subst he
  have R2 : Hid (Rw x2 base q i o pg pc ps g p zs (waitV H) ca ri (fun k => k = b)) := r2
  have B2 : Hid (Below base w x2) := B1.out.trans b2
  clear cb r2 b2
  clear hwt
  go_upto_region 5 with fail
  have S0 : Hid (x2.drew.cell? ⟨b, 0, none⟩ = some (.pointer (some ⟨q, 0, none⟩))) := (R2.out.bx b rfl).1.cell 0 rfl
  have R3 : Hid (Rw x2.drew base q i o pg pc ps g p zs (waitV H) ca ri (fun k => k = b)) := R2.out.keep (Below.refl _ _).drew
  have B3 : Hid (Below base w x2.drew) := B2.out.drew
  refine wp_region_held (S := fun w' => w'.cell? ⟨b, 0, none⟩ = some (.pointer (some ⟨q, 0, none⟩))) (by kernel_rfl) ?_
  change wpAnyH _ _ _ _ _ _ _ _ (World.drew _)
  generalize x2.drew = x0 at *
  refine wpTk (i := 0) (v := .pointer (some ⟨q, 0, none⟩)) rfl (Or.inl ⟨by rfl, fun w' hs => by have hc := hs; go_simp⟩) S0.out ?_
  change wpAnyH _ _ _ _ _ _ _ (Act.put _ (some 12) _) _
  simp only [Act.put, zT, zZ, zS]
  refine wpTk (i := 1) (v := .pointer (some ⟨q, 0, none⟩)) rfl (Or.inl ⟨by rfl, fun w' hs => by have hc := hs; go_simp⟩) S0.out ?_
  change wpAnyH _ _ _ _ _ _ _ (Act.put _ (some 13) _) _
  simp only [Act.put, zT, zZ, zS]
  refine wpTk (i := 2) (v := .pointer (some ⟨q, 0, none⟩)) rfl (Or.inl ⟨by rfl, fun w' hs => by have hc := hs; go_simp⟩) S0.out ?_
  change wpAnyH _ _ _ _ _ _ _ (Act.put _ (some 14) _) _
  simp only [Act.put, zT, zZ, zS]
  refine zR 3 rfl fun K hK => ?_
  rw [if_pos (by rfl)]
  go_simp
  refine (r_fetch R3.out HZ.out.1 0 op d a im HZ.out.2).mono ?_
  rintro e x1 ⟨he, b2⟩
  rw [if_pos rfl] at he
  subst he
  have R4 : Hid (Rw x1 base q i o pg pc ps g p zs (waitV H) ca ri (fun k => k = b)) := R3.out.keep b2
  have B4 : Hid (Below base w x1) := B3.out.trans (bless b2 R3.out.size)
  clear b2
  have S1 : Hid (x1.cell? ⟨b, 0, none⟩ = some (.pointer (some ⟨q, 0, none⟩))) := (R4.out.bx b rfl).1.cell 0 rfl
  refine hK.out _ _ S1.out (fun _ => ?_)
  clear hK K
  refine zR 4 rfl fun K hK => ?_
  rw [if_pos (by rfl)]
  go_simp
  refine (i_deed op d a im x1).mono ?_
  rintro e x3 ⟨rfl, b2⟩
  have R5 : Hid (Rw x3 base q i o pg pc ps g p zs (waitV H) ca ri (fun k => k = b)) := R4.out.keep b2
  have B5 : Hid (Below base w x3) := B4.out.trans (bless b2 R4.out.size)
  clear b2
  have S3 : Hid (x3.cell? ⟨b, 0, none⟩ = some (.pointer (some ⟨q, 0, none⟩))) := (R5.out.bx b rfl).1.cell 0 rfl
  generalize hT : deedT op = T
  refine hK.out _ _ S3.out (fun _ => ?_)
  clear hK K
  refine zR 5 rfl fun K hK => ?_
  rw [if_pos (by rfl)]
  go_simp
  have I := ins_parts HI.out
  rw [← hT]
  refine (r_do R5.out op d a im (by omega) (by omega) I.2.2.2.2.2.2.1 I.2.2.2.2.2.2.2.1 I.1 I.2.1 I.2.2.2.2.2.2.2.2.1 I.2.2.2.2.2.2.2.2.2).mono ?_
  clear I hT
  rintro e x4 ⟨he, i2, o2, r4, b4⟩
  have W1 := (HDW.out R5.out.sn.hok).1 (by rw [HX.out])
  rw [HX.out] at he r4 W1
  simp only [Dr.e] at he
  subst he
  have R6 : Hid (Rw x4 base q i2 o2 pg pc ps g p ys G ca rj (fun k => k = b)) := r4
  have B6 : Hid (Below base w x4) := B5.out.trans b4
  have HW : Hid (isW n = true) := W1
  clear r4 b4 W1
  have S4 : Hid (x4.cell? ⟨b, 0, none⟩ = some (.pointer (some ⟨q, 0, none⟩))) := (R6.out.bx b rfl).1.cell 0 rfl
  refine hK.out _ _ S4.out (fun _ => ?_)
  clear hK K
  refine wpTk (i := 6) (v := .pointer (some ⟨q, 0, none⟩)) rfl (Or.inl ⟨by rfl, fun w' hs => by go_simp⟩) S4.out ?_
  change wpAnyH _ _ _ _ _ _ _ (Act.put _ (some 18) _) _
  simp only [Act.put, zT, zZ, zS]
  refine wpTk (i := 7) (v := .pointer (some ⟨q, 0, none⟩)) rfl (Or.inl ⟨by rfl, fun w' hs => by go_simp⟩) S4.out ?_
  change wpAnyH _ _ _ _ _ _ _ (Act.put _ (some 19) _) _
  simp only [Act.put, zT, zZ, zS]
  refine wpTk (i := 8) (v := .pointer (some ⟨q, 0, none⟩)) rfl (Or.inl ⟨by rfl, fun w' hs => by go_simp⟩) S4.out ?_
  change wpAnyH _ _ _ _ _ _ _ (Act.put _ (some 20) _) _
  simp only [Act.put, zT, zZ, zS]
  refine wpTk (i := 9) (v := .pointer (some ⟨q, 16, none⟩)) rfl (Or.inl ⟨by rfl, fun w' hs => by go_simp⟩) S4.out ?_
  change wpAnyH _ _ _ _ _ _ _ (Act.put _ (some 21) _) _
  simp only [Act.put, zT, zZ, zS]
  refine zR 10 rfl fun K hK => ?_
  rw [if_pos (by rfl)]
  have c16 := R6.out.v.cell 16 rfl
  have f16 := R6.out.v.free 16
  have V6 := R6.out.v.set 16 (.int .i64 n)
  rw [mcr_pc] at V6
  have U6 := R6.out.upd V6 ((Mq.refl _ _).set ⟨q, 16, none⟩ _ rfl) rfl rfl (done_hok R6.out.sn.hok HW.out)
  have R7 : Hid (Rw (x4.setCell ⟨q, 16, none⟩ (.int .i64 n)) base q i2 o2 pg pc ps g p ys { G with pc := n } ca rj (fun k => k = b)) := U6.1
  have B7 : Hid (Below base w (x4.setCell ⟨q, 16, none⟩ (.int .i64 n))) := B6.out.trans U6.2
  clear V6 U6
  go_simp
  generalize x4.setCell ⟨q, 16, none⟩ (.int .i64 n) = x5 at *
  have S5 : Hid (x5.cell? ⟨b, 0, none⟩ = some (.pointer (some ⟨q, 0, none⟩))) := (R7.out.bx b rfl).1.cell 0 rfl
  refine hK.out _ _ S5.out (fun _ => ?_)
  clear hK K c16 f16
  refine wpAnyH_done (by kernel_rfl) ?_ _
  have cb : x5.cell? ⟨b, 0, none⟩ = some (.pointer (some ⟨q, 0, none⟩)) := S5.out
  have c31 : x5.cell? ⟨q, 31, none⟩ = some (.int .i64 G.done) := R7.out.v.cell 31 rfl
  have f31 := R7.out.v.free 31
  have DB : 0 ≤ G.done ∧ G.done ≤ 1000000000 := ⟨R7.out.sn.hok.d0, R7.out.sn.hok.d9⟩
  go_wp2_with fail
  go_region
  have MN : (if 1000000000 < G.done + 1 then 1000000000 else G.done + 1) = min (G.done + 1) 1000000000 := by split <;> omega
  rw [MN]
  clear MN DB c31 f31 cb
  have V8 := R7.out.v.set 31 (.int .i64 (min (G.done + 1) 1000000000))
  rw [mcr_more] at V8
  have U8 : Hid (_ ∧ _) := R7.out.upd V8 ((Mq.refl _ _).set ⟨q, 31, none⟩ _ rfl) rfl rfl (more_hok R7.out.sn.hok)
  clear V8
  go_wp2_with fail
  exact door_ret (b := b) (.inr rfl) rfl ⟨rfl, ⟨_, _, (U8.out.1.keep (Below.refl _ _).drew).unbox⟩, B7.out.trans U8.out.2.drew⟩
set_option maxRecDepth 20000 in
set_option maxHeartbeats 4000000 in
theorem r_step {w : World} {base q : Nat} {i o : Value} {pg pc : Nat} {ps : List (Int × Int)} {g p : Nat} {zs : List Int} {X : Nat → Prop} {H : Ht} {ca ri : Int} (R : Rw w base q i o pg pc ps g p zs H ca ri X) :
    Calls Tryz.prog 36 #[.pointer (some ⟨q, 0, none⟩)] w fun e w' => e = .returned (.tuple #[]) ∧ ∃ i' o', Rw w' base q i' o' pg pc ps g p (stepV H ps zs ca ri).2.1 (stepV H ps zs ca ri).1 (stepV H ps zs ca ri).2.2.1 (stepV H ps zs ca ri).2.2.2 (fun _ => False) ∧ Below base w w' := by
  by_cases hh : H.halted = true
  · exact step_halts R hh
  have hh' : H.halted = false := by simpa using hh
  by_cases hd : dueV H < 0
  · cases hw : (waitV H).waiting with
    | true => exact step_waits R hh' hd hw
    | false =>
      by_cases hz : plC (waitV H) ps zs H.pc 4 = 0
      · by_cases hf : decF (fetZ (waitV H) ps zs) = 0
        · have ip := ins_parts hf
          obtain ⟨d, hd2⟩ : ∃ d : Nat, (fetZ (waitV H) ps zs) / 1048576 % 16 = (d : Int) := ⟨((fetZ (waitV H) ps zs) / 1048576 % 16).toNat, by omega⟩
          obtain ⟨a, ha2⟩ : ∃ a : Nat, (fetZ (waitV H) ps zs) / 65536 % 16 = (a : Int) := ⟨((fetZ (waitV H) ps zs) / 65536 % 16).toNat, by omega⟩
          have hc : decV (fetZ (waitV H) ps zs) = .agg #[.int .i64 0, .int .i64 ((fetZ (waitV H) ps zs) / 16777216), .int .i64 (d : Int), .int .i64 (a : Int), .int .i64 ((fetZ (waitV H) ps zs) % 65536)] := by
            unfold decV; rw [if_pos hf, hd2, ha2]
          have hi : insC ((fetZ (waitV H) ps zs) / 16777216) d a ((fetZ (waitV H) ps zs) % 65536) = 0 := by rw [← hd2, ← ha2]; exact hf
          have hs : stepV H ps zs ca ri = (match doV (waitV H) ps zs ri ((fetZ (waitV H) ps zs) / 16777216) d a ((fetZ (waitV H) ps zs) % 65536) with
            | ⟨some (c, t), _, G, ys, rj⟩ => (trapV G c t, ys, c, rj)
            | ⟨none, n, G, ys, rj⟩ => ({ G with pc := n, done := min (G.done + 1) 1000000000 }, ys, ca, rj)) := by
            unfold stepV
            rw [if_neg (by simp [hh]), if_neg (by simpa using hd), if_neg (by simp [hw]), if_neg (by simpa using hz), if_neg (by simpa using hf), hd2, ha2]
            rfl
          cases h : doV (waitV H) ps zs ri ((fetZ (waitV H) ps zs) / 16777216) d a ((fetZ (waitV H) ps zs) % 65536) with
          | mk t n G ys rj =>
            rw [h] at hs
            cases t with
            | none => exact step_done R hh' hd hw hz _ d a _ hc hi n G ys rj h hs
            | some ct =>
              obtain ⟨c, t⟩ := ct
              exact step_trap R hh' hd hw hz _ d a _ hc hi c t n G ys rj h hs
        · exact step_bad R hh' hd hw hz hf
      · exact step_fetchNo R hh' hd hw hz
  · exact step_due R hh' hd
end Go.Proofs.YtaefollmeoepkaaGreatDoor
