/- Texts of this seat, joined. -/
import Derived.Test.YtaefollmeoepkaaGreatDoorQ42
namespace Go.Proofs.YtaefollmeoepkaaGreatDoor
open Go.RowKit
set_option linter.unusedVariables false
def stQ (R : Ending → World → Prop) : Exit → Act → World → Prop
  | .panic c, a, w => ∀ tmps, Leaves Tryz.prog Tryz.f36 tmps R a.defers (.panicking c) w
  | e, a, w => bodyPostD Tryz.prog Tryz.f36 R e a w
theorem stQ_to (R : Ending → World → Prop) (e : Exit) (a : Act) (w : World) (h : stQ R e a w) : bodyPostD Tryz.prog Tryz.f36 R e a w := by
  cases e with
  | panic c => exact h a.tmps
  | _ => exact h
theorem door_pan2 {a : Act} {x : World} {base q : Nat} {i o : Value} {pg pc : Nat} {ps : List (Int × Int)} {g p : Nat} {zs : List Int} {H : Ht} {ca ri : Int} {b : Nat} {R : Ending → World → Prop} (ha : a.defers = [{ target := .fn (.func 71) #[.pointer (some ⟨b, 0, none⟩)], args := #[] }]) (h : Rw x base q i o pg pc ps g p zs H ca ri (fun k => k = b)) (c t : Int) (h0 : 0 ≤ c) (h31 : c ≤ 31) (ht : isW t = true) (hR : ∀ x', Rw x' base q i o pg pc ps g p zs (trapV H c t) c ri (fun _ => False) → Below base x x' → R (.returned (.tuple #[])) x') :
    stQ R (.panic [{ v := .iface 116 (.agg #[.int .i64 c, .int .i64 t]), recovered := false }]) a x := by
  intro tmps
  exact door_pan (a := { tmps := tmps, defers := a.defers }) ha h c t h0 h31 ht hR
theorem br_word {t : Bool} {x y : Int} (hx : isW x = true) (hy : isW y = true) : isW (brV t x y) = true := by
  unfold brV; split <;> assumption
def Wd (x : Dr) : Prop := (x.t = none → isW x.next = true) ∧ ∀ c t, x.t = some (c, t) → 0 ≤ c ∧ c ≤ 31 ∧ isW t = true
theorem wd_ite {p : Prop} [Decidable p] {x y : Dr} (hx : Wd x) (hy : Wd y) : Wd (if p then x else y) := by split <;> assumption
theorem wd_ok {n : Int} {H : Ht} {zs : List Int} {ri : Int} (h : isW n = true) : Wd ⟨none, n, H, zs, ri⟩ := ⟨fun _ => h, fun c t e => (by cases e)⟩
theorem wd_no {c t n : Int} {H : Ht} {zs : List Int} {ri : Int} (h0 : 0 ≤ c) (h1 : c ≤ 31) (h : isW t = true) : Wd ⟨some (c, t), n, H, zs, ri⟩ := ⟨fun e => (by cases e), fun c' t' e => (by cases e; exact ⟨h0, h1, h⟩)⟩
theorem doV_word {H : Ht} (K : Hok H) (ps : List (Int × Int)) (zs : List Int) (ri op : Int) (d a : Nat) (im : Int) : Wd (doV H ps zs ri op d a im) := by
  unfold doV
  repeat' apply wd_ite
  all_goals first
    | exact wd_ok (add_word _ _)
    | exact wd_ok (br_word (add_word _ _) (add_word _ _))
    | exact wd_no (by decide) (by decide) (add_word _ _)
    | exact wd_no (by decide) (by decide) rfl
    | exact wd_ok (backV_hok K).pw
    | exact wd_ok K.pw
theorem ins_parts {op d a im : Int} (h : insC op d a im = 0) : 1 ≤ op ∧ op ≤ 26 ∧ 0 ≤ d ∧ d ≤ 15 ∧ 0 ≤ a ∧ a ≤ 15 ∧ 0 ≤ im ∧ im ≤ 65535 ∧ (op ≤ 11 → im < 16) ∧ (op = 21 ∨ op = 22 → im ≤ 10) := by
  unfold insC at h
  split at h
  · split at h <;> omega
  · omega
set_option maxRecDepth 20000 in
set_option maxHeartbeats 4000000 in
theorem step_fetchNo {w : World} {base q : Nat} {i o : Value} {pg pc : Nat} {ps : List (Int × Int)} {g p : Nat} {zs : List Int} {X : Nat → Prop} {H : Ht} {ca ri : Int} (R : Rw w base q i o pg pc ps g p zs H ca ri X) (hh : H.halted = false) (hd : dueV H < 0) (hw : (waitV H).waiting = false) (hz : ¬ plC (waitV H) ps zs H.pc 4 = 0) :
    Calls Tryz.prog 36 #[.pointer (some ⟨q, 0, none⟩)] w fun e w' => e = .returned (.tuple #[]) ∧ ∃ i' o', Rw w' base q i' o' pg pc ps g p (stepV H ps zs ca ri).2.1 (stepV H ps zs ca ri).1 (stepV H ps zs ca ri).2.2.1 (stepV H ps zs ca ri).2.2.2 (fun _ => False) ∧ Below base w w' := by
  have hv : stepV H ps zs ca ri = (trapV (waitV H) 2 H.pc, zs, 2, ri) := by unfold stepV; rw [if_neg (by simp [hh]), if_neg (by simpa using hd), if_neg (by simp [hw]), if_pos hz]
  have HZ : Hid (¬ plC (waitV H) ps zs H.pc 4 = 0) := hz
  clear hz
  rw [hv]
  have hmf : ∀ (fn : Fn) (first cap : Array Value) (w : World), (Instr.makeFunc fn first cap).run Tryz.prog w = .ok (.func fn first cap) w := fun _ _ _ _ => rfl
  obtain ⟨b, hb⟩ : ∃ b, w.heap.size = b := ⟨_, rfl⟩
  obtain ⟨W, hW⟩ : ∃ W, (w.alloc (.cells #[.pointer (some ⟨q, 0, none⟩)] 114)) = W := ⟨_, rfl⟩
  have RW0 : Hid (Rw W base q i o pg pc ps g p zs H ca ri (fun k => k = b)) := by show Rw _ _ _ _ _ _ _ _ _ _ _ _ _ _ _; rw [← hW]; exact R.box b hb
  have BW0 : Hid (Below base w W) := by show Below _ _ _; rw [← hW]; exact bless (al (Below.refl w.heap.size w) _) R.size
  have cb : W.cell? ⟨b, 0, none⟩ = some (.pointer (some ⟨q, 0, none⟩)) := (RW0.out.bx b rfl).1.cell 0 rfl
  have c28 : W.cell? ⟨q, 28, none⟩ = some (.bool H.halted) := RW0.out.v.cell 28 rfl
  clear R
  rw [hh] at c28
  have HD : Hid (dueV H < 0) := hd
  have hwt : (H.waiting && decide (bothV H = 0)) = false := hw
  clear hh hv hd hw
  refine calls_of_wp_defers Tryz.func36 rfl ?_
  refine Code.wp_mono (stQ_to _) ?_
  simp only [Tryz.ntmps36, List.size_toArray, List.length_cons, List.length_nil, Nat.reduceAdd, Nat.reduceSub, Array.replicate_succ, Array.replicate_zero, List.push_toArray, List.append_toArray, List.nil_append, List.cons_append]
  go_upto_region 1 with fail
  clear hW hb
  go_wp2_with fail
  refine (r_dueNo RW0.out HD.out).mono ?_
  rintro e x1 ⟨rfl, b1⟩
  have R1 : Hid (Rw x1 base q i o pg pc ps g p zs H ca ri (fun k => k = b)) := RW0.out.keep b1
  have B1 : Hid (Below base w x1) := BW0.out.trans (bless b1 RW0.out.size)
  clear cb c28 b1
  have cb : x1.cell? ⟨b, 0, none⟩ = some (.pointer (some ⟨q, 0, none⟩)) := (R1.out.bx b rfl).1.cell 0 rfl
  go_wp2_with fail
  refine (r_waits R1.out).mono ?_
  rintro e x2 ⟨he, r2, b2⟩
  rw [hwt] at he
  subst he
  have R2 : Hid (Rw x2 base q i o pg pc ps g p zs (waitV H) ca ri (fun k => k = b)) := r2
  have B2 : Hid (Below base w x2) := B1.out.trans b2
  clear cb r2 b2
  clear hwt
  go_upto_region 5 with fail
  have S0 : Hid (x2.drew.cell? ⟨b, 0, none⟩ = some (.pointer (some ⟨q, 0, none⟩))) := (R2.out.bx b rfl).1.cell 0 rfl
  have R3 : Hid (Rw x2.drew base q i o pg pc ps g p zs (waitV H) ca ri (fun k => k = b)) := R2.out.keep (Below.refl _ _).drew
  have B3 : Hid (Below base w x2.drew) := B2.out.drew
  refine wp_region_held (S := fun w' => w'.cell? ⟨b, 0, none⟩ = some (.pointer (some ⟨q, 0, none⟩))) (by kernel_rfl) ?_
  change wpAnyH _ _ _ _ _ _ _ _ (World.drew _)
  generalize x2.drew = x0 at *
  refine wpTk (i := 0) (v := .pointer (some ⟨q, 0, none⟩)) rfl (Or.inl ⟨by rfl, fun w' hs => by have hc := hs; go_simp⟩) S0.out ?_
  change wpAnyH _ _ _ _ _ _ _ (Act.put _ (some 12) _) _
  simp only [Act.put, zT, zZ, zS]
  refine wpTk (i := 1) (v := .pointer (some ⟨q, 0, none⟩)) rfl (Or.inl ⟨by rfl, fun w' hs => by have hc := hs; go_simp⟩) S0.out ?_
  change wpAnyH _ _ _ _ _ _ _ (Act.put _ (some 13) _) _
  simp only [Act.put, zT, zZ, zS]
  refine wpTk (i := 2) (v := .pointer (some ⟨q, 0, none⟩)) rfl (Or.inl ⟨by rfl, fun w' hs => by have hc := hs; go_simp⟩) S0.out ?_
  change wpAnyH _ _ _ _ _ _ _ (Act.put _ (some 14) _) _
  simp only [Act.put, zT, zZ, zS]
  refine zR 3 rfl fun K hK => ?_
  rw [if_pos (by rfl)]
  go_simp
  refine (r_fetchNo R3.out HZ.out).mono ?_
  rintro e x1 ⟨he, b2⟩
  unfold pan at he
  subst he
  clear hK
  go_wp2_with fail
  exact door_pan2 (b := b) rfl (R3.out.keep b2) 2 H.pc (by decide) (by decide) R3.out.sn.hok.pw fun x r bb => ⟨rfl, _, _, r, B3.out.trans ((bless b2 R3.out.size).trans bb)⟩
set_option maxRecDepth 20000 in
set_option maxHeartbeats 4000000 in
theorem step_bad {w : World} {base q : Nat} {i o : Value} {pg pc : Nat} {ps : List (Int × Int)} {g p : Nat} {zs : List Int} {X : Nat → Prop} {H : Ht} {ca ri : Int} (R : Rw w base q i o pg pc ps g p zs H ca ri X) (hh : H.halted = false) (hd : dueV H < 0) (hw : (waitV H).waiting = false) (hz : plC (waitV H) ps zs H.pc 4 = 0) (hf : ¬ decF (fetZ (waitV H) ps zs) = 0) :
    Calls Tryz.prog 36 #[.pointer (some ⟨q, 0, none⟩)] w fun e w' => e = .returned (.tuple #[]) ∧ ∃ i' o', Rw w' base q i' o' pg pc ps g p (stepV H ps zs ca ri).2.1 (stepV H ps zs ca ri).1 (stepV H ps zs ca ri).2.2.1 (stepV H ps zs ca ri).2.2.2 (fun _ => False) ∧ Below base w w' := by
  have hv : stepV H ps zs ca ri = (trapV (waitV H) 1 (fetZ (waitV H) ps zs), zs, 1, ri) := by unfold stepV; rw [if_neg (by simp [hh]), if_neg (by simpa using hd), if_neg (by simp [hw]), if_neg (by simpa using hz), if_pos hf]
  have HZ : Hid (plC (waitV H) ps zs H.pc 4 = 0 ∧ decV (fetZ (waitV H) ps zs) = .agg #[.int .i64 5, .int .i64 0, .int .i64 0, .int .i64 0, .int .i64 0]) := ⟨hz, if_neg hf⟩
  clear hz hf
  rw [hv]
  have hmf : ∀ (fn : Fn) (first cap : Array Value) (w : World), (Instr.makeFunc fn first cap).run Tryz.prog w = .ok (.func fn first cap) w := fun _ _ _ _ => rfl
  obtain ⟨b, hb⟩ : ∃ b, w.heap.size = b := ⟨_, rfl⟩
  obtain ⟨W, hW⟩ : ∃ W, (w.alloc (.cells #[.pointer (some ⟨q, 0, none⟩)] 114)) = W := ⟨_, rfl⟩
  have RW0 : Hid (Rw W base q i o pg pc ps g p zs H ca ri (fun k => k = b)) := by show Rw _ _ _ _ _ _ _ _ _ _ _ _ _ _ _; rw [← hW]; exact R.box b hb
  have BW0 : Hid (Below base w W) := by show Below _ _ _; rw [← hW]; exact bless (al (Below.refl w.heap.size w) _) R.size
  have cb : W.cell? ⟨b, 0, none⟩ = some (.pointer (some ⟨q, 0, none⟩)) := (RW0.out.bx b rfl).1.cell 0 rfl
  have c28 : W.cell? ⟨q, 28, none⟩ = some (.bool H.halted) := RW0.out.v.cell 28 rfl
  clear R
  rw [hh] at c28
  have HD : Hid (dueV H < 0) := hd
  have hwt : (H.waiting && decide (bothV H = 0)) = false := hw
  clear hh hv hd hw
  refine calls_of_wp_defers Tryz.func36 rfl ?_
  refine Code.wp_mono (stQ_to _) ?_
  simp only [Tryz.ntmps36, List.size_toArray, List.length_cons, List.length_nil, Nat.reduceAdd, Nat.reduceSub, Array.replicate_succ, Array.replicate_zero, List.push_toArray, List.append_toArray, List.nil_append, List.cons_append]
  go_upto_region 1 with fail
  clear hW hb
  go_wp2_with fail
  refine (r_dueNo RW0.out HD.out).mono ?_
  rintro e x1 ⟨rfl, b1⟩
  have R1 : Hid (Rw x1 base q i o pg pc ps g p zs H ca ri (fun k => k = b)) := RW0.out.keep b1
  have B1 : Hid (Below base w x1) := BW0.out.trans (bless b1 RW0.out.size)
  clear cb c28 b1
  have cb : x1.cell? ⟨b, 0, none⟩ = some (.pointer (some ⟨q, 0, none⟩)) := (R1.out.bx b rfl).1.cell 0 rfl
  go_wp2_with fail
  refine (r_waits R1.out).mono ?_
  rintro e x2 ⟨he, r2, b2⟩
  rw [hwt] at he
  subst he
  have R2 : Hid (Rw x2 base q i o pg pc ps g p zs (waitV H) ca ri (fun k => k = b)) := r2
  have B2 : Hid (Below base w x2) := B1.out.trans b2
  clear cb r2 b2
  clear hwt
  go_upto_region 5 with fail
  have S0 : Hid (x2.drew.cell? ⟨b, 0, none⟩ = some (.pointer (some ⟨q, 0, none⟩))) := (R2.out.bx b rfl).1.cell 0 rfl
  have R3 : Hid (Rw x2.drew base q i o pg pc ps g p zs (waitV H) ca ri (fun k => k = b)) := R2.out.keep (Below.refl _ _).drew
  have B3 : Hid (Below base w x2.drew) := B2.out.drew
  refine wp_region_held (S := fun w' => w'.cell? ⟨b, 0, none⟩ = some (.pointer (some ⟨q, 0, none⟩))) (by kernel_rfl) ?_
  change wpAnyH _ _ _ _ _ _ _ _ (World.drew _)
  generalize x2.drew = x0 at *
  refine wpTk (i := 0) (v := .pointer (some ⟨q, 0, none⟩)) rfl (Or.inl ⟨by rfl, fun w' hs => by have hc := hs; go_simp⟩) S0.out ?_
  change wpAnyH _ _ _ _ _ _ _ (Act.put _ (some 12) _) _
  simp only [Act.put, zT, zZ, zS]
  refine wpTk (i := 1) (v := .pointer (some ⟨q, 0, none⟩)) rfl (Or.inl ⟨by rfl, fun w' hs => by have hc := hs; go_simp⟩) S0.out ?_
  change wpAnyH _ _ _ _ _ _ _ (Act.put _ (some 13) _) _
  simp only [Act.put, zT, zZ, zS]
  refine wpTk (i := 2) (v := .pointer (some ⟨q, 0, none⟩)) rfl (Or.inl ⟨by rfl, fun w' hs => by have hc := hs; go_simp⟩) S0.out ?_
  change wpAnyH _ _ _ _ _ _ _ (Act.put _ (some 14) _) _
  simp only [Act.put, zT, zZ, zS]
  refine zR 3 rfl fun K hK => ?_
  rw [if_pos (by rfl)]
  go_simp
  refine (r_fetch R3.out HZ.out.1 5 0 0 0 0 HZ.out.2).mono ?_
  rintro e x1 ⟨he, b2⟩
  rw [if_neg (by decide)] at he
  unfold pan at he
  subst he
  clear hK
  go_wp2_with fail
  exact door_pan2 (b := b) rfl (R3.out.keep b2) 1 (fetZ (waitV H) ps zs) (by decide) (by decide) (word_at R3.out.sn.zw _) fun x r bb => ⟨rfl, _, _, r, B3.out.trans ((bless b2 R3.out.size).trans bb)⟩
end Go.Proofs.YtaefollmeoepkaaGreatDoor
