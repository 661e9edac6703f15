/- Texts of this seat, joined. -/
import Derived.Deep.RegionWith
import Derived.Deep.Cut
import Derived.Deep.CutRange
import Derived.Test.YtcdbhhhihhdghaaGreatDoorQ22
import Derived.Test.YtcdbhhhihhdghaaGreatDoorQ29
import Derived.Test.YtcdbhhhihhdghaaGreatDoorQ47
namespace Go.Proofs.YtcdbhhhihhdghaaGreatDoor
open Go.RowKit
set_option linter.unusedVariables false

theorem Kb.low {w w' : World} {B q : Nat} {cs : Array Value} {t : TypeId} (h : Kb w q cs t) (b : Below B w w') (hq : q < B) : Kb w' q cs t := (b.block q hq).trans h
theorem i_cut (l : Wb) (c : UInt8) (hl : l.length ≤ 1048576) (w : World) (g : Gp w) : Calls Tryz.prog 24 #[.string (bq l), .string ⟨#[c]⟩] w fun e w' =>
    e = .returned (.tuple #[.string (bq (if c ∈ l then befP c l else l)), .string (bq (if c ∈ l then aftP c l else [])), .bool (decide (c ∈ l))]) ∧ Below w.heap.size w w' := by
  obtain ⟨m, hm⟩ := g.ml
  refine (Tryz.strings_Cut (bq l) ⟨#[c]⟩ m w (by rw [bq_size]; omega) hm).mono ?_
  rintro e w' ⟨rfl, n, rfl⟩
  have hc : Lib.cut (bq l).data.toList (⟨#[c]⟩ : ByteArray).data.toList = if c ∈ l then (befP c l, aftP c l, true) else (l, [], false) := cut_bef c l
  rw [hc]
  refine ⟨?_, ⟨rfl, rfl, rfl, Nat.le_refl _, fun _ _ => rfl⟩⟩
  by_cases h : c ∈ l
  · simp only [if_pos h, decide_eq_true h]; rfl
  · simp only [if_neg h, decide_eq_false h]; rfl
theorem i_with (k : Nat) (hk : k < 4) (base : Nat) (v0 v1 v2 v3 u : Value) (P : Plc) (xs : List Value) (zs : List Int) (w : World) (h : Wp w base v0 v1 v2 v3 P xs) (hu : Nums w base u zs) (ha : ∀ x ∈ xs, Apt x u) (hc : (k = 1 → zs.length = 5) ∧ (k = 2 → zs.length = 2) ∧ (k = 3 → zs.length = 2)) (hb : base ≤ w.heap.size) (hs : SmP P 1000) :
    Calls Tryz.prog 26 #[.agg #[v0, v1, v2, v3], .int .i64 (k : Int), u] w fun e w' => ∃ v0' v1' v2' v3' xs', e = .returned (.agg #[v0', v1', v2', v3']) ∧ Wp w' base v0' v1' v2' v3' (adP P k zs) xs' ∧ Gn base w w' := by
  match k, hk with
  | 0, _ => exact i_with0 base v0 v1 v2 v3 u P xs zs w h hu ha hb hs
  | 1, _ => exact i_with1 base v0 v1 v2 v3 u P xs zs base w h hu (hc.1 rfl) hb hs
  | 2, _ => exact i_with2 base v0 v1 v2 v3 u P xs zs base w h hu (hc.2.1 rfl) hb hs
  | 3, _ => exact i_with3 base v0 v1 v2 v3 u P xs zs base w h hu (hc.2.2 rfl) hb hs
theorem ln_cnt {l : Wb} {f : Nat} {zs : List Int} (h : lnO l = some (f, zs)) : f < 4 ∧ (f = 1 → zs.length = 5) ∧ (f = 2 → zs.length = 2) ∧ (f = 3 → zs.length = 2) := by
  unfold lnO at h
  split at h
  · rename_i k zs' e1 e2
    cases h
    have h1 := fm_lt e1
    have h2 := ns_len _ _ e2
    rw [List.length_drop] at h2
    exact ⟨h1.1, fun e => by have := h1.2.2.1 e; omega, fun e => by have := h1.2.2.2.1 e; omega, fun e => by have := h1.2.2.2.2 e; omega⟩
  · cases h
def lenS : Value → Nat
  | .string b => b.size
  | _ => 0
/-- What reading the lines gives. -/
def rpQ (w w' : World) (r : Int × Nat × Plc) (e : Ending) : Prop :=
  (r.1 = 0 ∧ ∃ v0 v1 v2 v3 xs, e = .returned (.tuple #[.agg #[v0, v1, v2, v3], .nilIface]) ∧ Wp w' w.heap.size v0 v1 v2 v3 r.2.2 xs) ∨
  (r.1 = 5 ∧ e = .returned (.tuple #[.agg #[.slice none 0 0, .slice none 0 0, .slice none 0 0, .slice none 0 0], .iface 66 (.agg #[.int .i64 (r.2.1 : Int), .iface 64 (.agg #[.int .i64 5])])]))
structure Lp (w wr : World) (tx : Wb) (R : Int × Nat × Plc) (t : Wb) (k i : Nat) (P : Plc) (v0 v1 v2 v3 : Value) (xs : List Value) : Prop where
  len : t.length + i ≤ 1000
  val : rdP (spl 10 t []) k i P = R
  sm : SmP P i
  pol : Wp wr (w.heap.size + 2) v0 v1 v2 v3 P xs
  var : Kb wr (w.heap.size + 1) #[v0, v1, v2, v3] 27
  res : Kb wr w.heap.size #[.slice none 0 0, .slice none 0 0, .slice none 0 0, .slice none 0 0] 27
  bel : Below w.heap.size w wr
  two : w.heap.size + 2 ≤ wr.heap.size
set_option maxRecDepth 20000 in
set_option maxHeartbeats 8000000 in
theorem i_readPolicy (tx : Wb) (hl : tx.length ≤ 1000) (w : World) (g : Gp w) : Calls Tryz.prog 13 #[.string (bq tx)] w fun e w' => rpQ w w' (rdP (spl 10 tx []) 0 0 vdP) e ∧ Below w.heap.size w w' := by
  have G : Hid (Gp w) := g
  obtain ⟨R, hR⟩ : ∃ R, rdP (spl 10 tx []) 0 0 vdP = R := ⟨_, rfl⟩
  have HR : Hid (rdP (spl 10 tx []) 0 0 vdP = R) := hR
  have HL : Hid (tx.length ≤ 1000) := hl
  rw [hR]
  clear g hR hl
  go_enter Tryz.func13, Tryz.ntmps13
  go_wp2_with fail
  go_loopw [0, 5, 6] (fun ts lst ah wr => ∃ (t : Wb) (k i : Nat) (P : Plc) (v0 v1 v2 v3 : Value) (xs : List Value), ts = .string (bq t) ∧ lst = .int .i64 (k : Int) ∧ ah = .int .i64 (i : Int) ∧ Lp w wr tx R t k i P v0 v1 v2 v3 xs) (fun ts _ _ _ => lenS ts)
  case atStart =>
    refine ⟨tx, 0, 0, vdP, .slice none 0 0, .slice none 0 0, .slice none 0 0, .slice none 0 0, [], rfl, rfl, rfl, by have := HL.out; omega, HR.out, ⟨Nat.le_refl _, Nat.le_refl _, Nat.le_refl _, Nat.le_refl _⟩, Wp.void _ _, ?_, (Kb.new w _ _).keep (al (Below.refl _ _) _), al (al (Below.refl _ _) _) _, by simp⟩
    have e : (w.alloc (.cells #[.slice none 0 0, .slice none 0 0, .slice none 0 0, .slice none 0 0] 27)).heap.size = w.heap.size + 1 := by simp
    have := Kb.new (w.alloc (.cells #[.slice none 0 0, .slice none 0 0, .slice none 0 0, .slice none 0 0] 27)) #[.slice none 0 0, .slice none 0 0, .slice none 0 0, .slice none 0 0] 27
    rw [e] at this
    exact this
  case round =>
    obtain ⟨t, k, i, P, v0, v1, v2, v3, xs, rfl, rfl, rfl, hp⟩ := hrel
    have LP : Hid (Lp w wr tx R t k i P v0 v1 v2 v3 xs) := hp
    have GW : Hid (Gp wr) := G.out.keep hp.bel
    clear hp
    by_cases h0 : t = []
    · subst h0
      obtain ⟨b0, b1, b2, b3, d0, d1, d2, d3, rfl, rfl, rfl, rfl⟩ := LP.out.pol.shape
      have es : (bq ([] : Wb)).toList.isEmpty = true := by rw [bqP_toList]; rfl
      have e : R = (0, 0, P) := by rw [← LP.out.val]; exact rd_end k i P
      have q0 := LP.out.var.cell (i := 0) rfl
      have q1 := LP.out.var.cell (i := 1) rfl
      have q2 := LP.out.var.cell (i := 2) rfl
      have q3 := LP.out.var.cell (i := 3) rfl
      have r0 := LP.out.res.cell (i := 0) rfl
      have r1 := LP.out.res.cell (i := 1) rfl
      have r2 := LP.out.res.cell (i := 2) rfl
      have r3 := LP.out.res.cell (i := 3) rfl
      have t0 := LP.out.res.free 0
      have t1 := LP.out.res.free 1
      have t2 := LP.out.res.free 2
      have t3 := LP.out.res.free 3
      go_wp2_with fail
      have KF : Kb _ w.heap.size #[.slice b0 P.own.length d0, .slice b1 P.lanes.length d1, .slice b2 P.bells.length d2, .slice b3 P.plan.length d3] 27 := (((LP.out.res.set 0 (.slice b0 P.own.length d0)).set 1 (.slice b1 P.lanes.length d1)).set 2 (.slice b2 P.bells.length d2)).set 3 (.slice b3 P.plan.length d3)
      have LD := run_loadVar_mid (P := Tryz.prog) _ w.heap.size 0 27 #[.slice b0 P.own.length d0, .slice b1 P.lanes.length d1, .slice b2 P.bells.length d2, .slice b3 P.plan.length d3].toList _ (fun j v hj => by rw [Nat.zero_add]; exact KF.cell (by simpa using hj)) Tryz.underlying27 rfl (by kernel_rfl)
      subst e
      exact bodyPost_ret (v := .tuple #[.agg #[.slice b0 P.own.length d0, .slice b1 P.lanes.length d1, .slice b2 P.bells.length d2, .slice b3 P.plan.length d3], .nilIface]) (by simp [results, Tryz.results13, asAddr]; rw [LD]; simp) rfl ⟨.inl ⟨rfl, _, _, _, _, _, rfl, ((LP.out.pol.put4 LP.out.res).mono (by omega))⟩, (((LP.out.bel.setCell (Nat.le_refl _) _).setCell (Nat.le_refl _) _).setCell (Nat.le_refl _) _).setCell (Nat.le_refl _) _⟩
    · have es : (bq t).toList.isEmpty = false := by rw [bqP_toList]; cases t with | nil => exact absurd rfl h0 | cons c r => rfl
      have TL : Hid (t.length ≤ 1000) := by have := LP.out.len; show _ ≤ _; omega
      have hst := rd_step t h0 k i P
      rw [LP.out.val] at hst
      have IC := i_cut t 10 (by have := TL.out; omega) wr GW.out
      by_cases hm : (10 : UInt8) ∈ t
      · rw [if_pos hm] at hst
        rw [if_pos hm, if_pos hm, decide_eq_true hm] at IC
        have LB : Hid ((befP 10 t).length ≤ 1000) := by have := bef_len 10 t; have := TL.out; show _ ≤ _; omega
        have SA : Hid ((aftP 10 t).length < t.length) := aft_short 10 t hm
        cases hln : lnO (befP 10 t) with
        | none =>
          rw [hln] at hst
          have e : R = (5, i, P) := hst
          have RL := fun w1 (g1 : Gp w1) => i_readLine (befP 10 t) LB.out w1 g1
          rw [hln] at RL
          clear hst hln SA LB hm h0
          generalize bq (befP 10 t) = SB at *
          generalize bq (aftP 10 t) = SC at *
          generalize bq t = ST at *
          go_wp2_with (first
            | (go_at_call 24; refine IC.mono ?_; rintro e w1 ⟨rfl, b1⟩; have B1 : Hid (Below wr.heap.size wr w1) := b1; clear b1)
            | (go_at_call 25; refine (RL _ (GW.out.keep B1.out)).mono ?_; rintro e w2 ⟨rfl, b2⟩; have B2 : Hid (Below wr.heap.size wr w2) := on B1.out b2; have KE : Hid (Kb w2 w.heap.size #[.slice none 0 0, .slice none 0 0, .slice none 0 0, .slice none 0 0] 27) := LP.out.res.keep B2.out; have t0 := KE.out.cell (i := 0) rfl; have f0 := KE.out.free 0; have t1 := KE.out.cell (i := 1) rfl; have f1 := KE.out.free 1; have t2 := KE.out.cell (i := 2) rfl; have f2 := KE.out.free 2; have t3 := KE.out.cell (i := 3) rfl; have f3 := KE.out.free 3; clear b2))
          have KF : Kb _ w.heap.size #[.slice none 0 0, .slice none 0 0, .slice none 0 0, .slice none 0 0] 27 := (((KE.out.set 0 (.slice none 0 0)).set 1 (.slice none 0 0)).set 2 (.slice none 0 0)).set 3 (.slice none 0 0)
          have LD := run_loadVar_mid (P := Tryz.prog) _ w.heap.size 0 27 #[.slice none 0 0, .slice none 0 0, .slice none 0 0, .slice none 0 0].toList _ (fun j v hj => by rw [Nat.zero_add]; exact KF.cell (by simpa using hj)) Tryz.underlying27 rfl (by kernel_rfl)
          subst e
          exact bodyPost_ret (v := .tuple #[.agg #[.slice none 0 0, .slice none 0 0, .slice none 0 0, .slice none 0 0], .iface 66 (.agg #[.int .i64 (i : Int), .iface 64 (.agg #[.int .i64 5])])]) (by simp [results, Tryz.results13, asAddr]; rw [LD]; simp) rfl ⟨.inr ⟨rfl, rfl⟩, ((((on LP.out.bel B2.out).setCell (Nat.le_refl _) _).setCell (Nat.le_refl _) _).setCell (Nat.le_refl _) _).setCell (Nat.le_refl _) _⟩
        | some fz =>
          obtain ⟨f, zs⟩ := fz
          rw [hln] at hst
          have hst : R = if f < k then (5, i, P) else rdP (spl 10 (aftP 10 t) []) f (i + 1) (adP P f zs) := hst
          have RL := fun w1 (g1 : Gp w1) => i_readLine (befP 10 t) LB.out w1 g1
          rw [hln] at RL
          have LC : Hid (f < 4 ∧ (f = 1 → zs.length = 5) ∧ (f = 2 → zs.length = 2) ∧ (f = 3 → zs.length = 2)) := ln_cnt hln
          by_cases hf : f < k
          · rw [if_pos hf] at hst
            have e : R = (5, i, P) := hst
            have hI : (f : Int) < (k : Int) := by omega
            clear hst hln SA LB hm h0 hf
            generalize bq (befP 10 t) = SB at *
            generalize bq (aftP 10 t) = SC at *
            generalize bq t = ST at *
            go_wp2_with (first
              | (go_at_call 24; refine IC.mono ?_; rintro e w1 ⟨rfl, b1⟩; have B1 : Hid (Below wr.heap.size wr w1) := b1; clear b1)
              | (go_at_call 25; refine (RL _ (GW.out.keep B1.out)).mono ?_; rintro e w2 ⟨⟨v, rfl, hN⟩, b2⟩; have B2 : Hid (Below wr.heap.size wr w2) := on B1.out b2; have KE : Hid (Kb w2 w.heap.size #[.slice none 0 0, .slice none 0 0, .slice none 0 0, .slice none 0 0] 27) := LP.out.res.keep B2.out; have t0 := KE.out.cell (i := 0) rfl; have f0 := KE.out.free 0; have t1 := KE.out.cell (i := 1) rfl; have f1 := KE.out.free 1; have t2 := KE.out.cell (i := 2) rfl; have f2 := KE.out.free 2; have t3 := KE.out.cell (i := 3) rfl; have f3 := KE.out.free 3; clear b2 hN))
            have KF : Kb _ w.heap.size #[.slice none 0 0, .slice none 0 0, .slice none 0 0, .slice none 0 0] 27 := (((KE.out.set 0 (.slice none 0 0)).set 1 (.slice none 0 0)).set 2 (.slice none 0 0)).set 3 (.slice none 0 0)
            have LD := run_loadVar_mid (P := Tryz.prog) _ w.heap.size 0 27 #[.slice none 0 0, .slice none 0 0, .slice none 0 0, .slice none 0 0].toList _ (fun j v hj => by rw [Nat.zero_add]; exact KF.cell (by simpa using hj)) Tryz.underlying27 rfl (by kernel_rfl)
            subst e
            exact bodyPost_ret (v := .tuple #[.agg #[.slice none 0 0, .slice none 0 0, .slice none 0 0, .slice none 0 0], .iface 66 (.agg #[.int .i64 (i : Int), .iface 64 (.agg #[.int .i64 5])])]) (by simp [results, Tryz.results13, asAddr]; rw [LD]; simp) rfl ⟨.inr ⟨rfl, rfl⟩, ((((on LP.out.bel B2.out).setCell (Nat.le_refl _) _).setCell (Nat.le_refl _) _).setCell (Nat.le_refl _) _).setCell (Nat.le_refl _) _⟩
          · rw [if_neg hf] at hst
            have HV : Hid (rdP (spl 10 (aftP 10 t) []) f (i + 1) (adP P f zs) = R) := hst.symm
            have hI : (k : Int) ≤ (f : Int) := by omega
            have wi : IntKind.i64.wrap ((i : Int) + 1) = (i : Int) + 1 := by rw [IntKind.wrap_i64]; have := LP.out.len; omega
            clear hst hln LB hm h0 hf
            have LS : Hid (lenS (.string (bq (aftP 10 t))) < lenS (.string (bq t))) := by show (bq _).size < (bq _).size; rw [bq_size, bq_size]; exact SA.out
            generalize bq (befP 10 t) = SB at *
            obtain ⟨SC, hSC⟩ : ∃ s, bq (aftP 10 t) = s := ⟨_, rfl⟩
            have HSC : Hid (bq (aftP 10 t) = SC) := hSC
            rw [hSC] at IC LS
            clear hSC
            generalize bq t = ST at *
            go_wp2_with (first
              | (go_at_call 24; refine IC.mono ?_; rintro e w1 ⟨rfl, b1⟩; have B1 : Hid (Below wr.heap.size wr w1) := b1; clear b1)
              | (go_at_call 25; refine (RL _ (GW.out.keep B1.out)).mono ?_; rintro e w2 ⟨⟨v, rfl, hN⟩, b2⟩; have B2 : Hid (Below wr.heap.size wr w2) := on B1.out b2; have PN : Hid (Wp w2 (w.heap.size + 2) v0 v1 v2 v3 P xs) := LP.out.pol.keep B2.out; have NU : Hid (Nums w2 (w.heap.size + 2) v zs) := owns_mono hN (by have := LP.out.two; have := B1.out.size; omega); have AP : Hid (∀ x ∈ xs, Apt x v) := LP.out.pol.apt hN B1.out.size; have q0 := (LP.out.var.keep B2.out).cell (i := 0) rfl; have q1 := (LP.out.var.keep B2.out).cell (i := 1) rfl; have q2 := (LP.out.var.keep B2.out).cell (i := 2) rfl; have q3 := (LP.out.var.keep B2.out).cell (i := 3) rfl; clear b2 hN)
              | (go_at_call 26; refine (i_with f LC.out.1 (w.heap.size + 2) v0 v1 v2 v3 _ P xs zs _ PN.out NU.out AP.out LC.out.2 (by have := LP.out.two; have := B2.out.size; omega) (by have h := LP.out.sm; have := LP.out.len; exact ⟨by have := h.own; omega, by have := h.lanes; omega, by have := h.bells; omega, by have := h.plan; omega⟩)).mono ?_; rintro e w3 ⟨u0, u1, u2, u3, ys, rfl, hW, hG⟩; obtain ⟨b0, b1, b2, b3, d0, d1, d2, d3, e0, e1, e2, e3⟩ := hW.shape; generalize (adP P f zs).own.length = m0 at e0; generalize (adP P f zs).lanes.length = m1 at e1; generalize (adP P f zs).bells.length = m2 at e2; generalize (adP P f zs).plan.length = m3 at e3; subst e0 e1 e2 e3; have WN : Hid (Wp w3 (w.heap.size + 2) _ _ _ _ (adP P f zs) ys) := hW; have GN : Hid (Gn (w.heap.size + 2) w2 w3) := hG; have S2 : Hid (w.heap.size + 2 ≤ w2.heap.size) := (by have := LP.out.two; have := B2.out.size; show _ ≤ _; omega); have KV : Hid (Kb w3 (w.heap.size + 1) #[v0, v1, v2, v3] 27) := (LP.out.var.keep B2.out).low (GN.out.self S2.out) (by omega); have KE : Hid (Kb w3 w.heap.size #[.slice none 0 0, .slice none 0 0, .slice none 0 0, .slice none 0 0] 27) := (LP.out.res.keep B2.out).low (GN.out.self S2.out) (by omega); have t0 := KV.out.cell (i := 0) rfl; have t1 := KV.out.cell (i := 1) rfl; have t2 := KV.out.cell (i := 2) rfl; have t3 := KV.out.cell (i := 3) rfl; have f0 := KV.out.free 0; have f1 := KV.out.free 1; have f2 := KV.out.free 2; have f3 := KV.out.free 3; clear hW hG q0 q1 q2 q3))
            go_roundw
            case rel =>
              refine ⟨aftP 10 t, f, i + 1, adP P f zs, _, _, _, _, ys, by rw [HSC.out], rfl, by go_num, by have := SA.out; have := LP.out.len; omega, HV.out, LP.out.sm.next f zs, WN.out.put4 KV.out, ((((KV.out.set 0 _).set 1 _).set 2 _).set 3 _), ((((KE.out.put (w.heap.size + 1) 0 _ (by omega)).put (w.heap.size + 1) 1 _ (by omega)).put (w.heap.size + 1) 2 _ (by omega)).put (w.heap.size + 1) 3 _ (by omega)), ((((GN.out _ w (on LP.out.bel B2.out) (by omega) (Nat.le_refl _)).setCell (by show w.heap.size ≤ w.heap.size + 1; omega) _).setCell (by show w.heap.size ≤ w.heap.size + 1; omega) _).setCell (by show w.heap.size ≤ w.heap.size + 1; omega) _).setCell (by show w.heap.size ≤ w.heap.size + 1; omega) _, ?_⟩
              have := (GN.out.self S2.out).size
              have := S2.out
              simp [World.setCell]
              omega
            case measure => exact LS.out
      · rw [if_neg hm] at hst
        rw [if_neg hm, if_neg hm, decide_eq_false hm] at IC
        have e : R = (5, i, P) := hst
        have RL := fun w1 (g1 : Gp w1) => i_readLine t TL.out w1 g1
        clear hst hm h0
        cases hln : lnO t with
        | none =>
          rw [hln] at RL
          clear hln
          generalize bq [] = SC at *
          generalize bq t = ST at *
          go_wp2_with (first
            | (go_at_call 24; refine IC.mono ?_; rintro e w1 ⟨rfl, b1⟩; have B1 : Hid (Below wr.heap.size wr w1) := b1; clear b1)
            | (go_at_call 25; refine (RL _ (GW.out.keep B1.out)).mono ?_; rintro e w2 ⟨rfl, b2⟩; have B2 : Hid (Below wr.heap.size wr w2) := on B1.out b2; have KE : Hid (Kb w2 w.heap.size #[.slice none 0 0, .slice none 0 0, .slice none 0 0, .slice none 0 0] 27) := LP.out.res.keep B2.out; have t0 := KE.out.cell (i := 0) rfl; have f0 := KE.out.free 0; have t1 := KE.out.cell (i := 1) rfl; have f1 := KE.out.free 1; have t2 := KE.out.cell (i := 2) rfl; have f2 := KE.out.free 2; have t3 := KE.out.cell (i := 3) rfl; have f3 := KE.out.free 3; clear b2))
          have KF : Kb _ w.heap.size #[.slice none 0 0, .slice none 0 0, .slice none 0 0, .slice none 0 0] 27 := (((KE.out.set 0 (.slice none 0 0)).set 1 (.slice none 0 0)).set 2 (.slice none 0 0)).set 3 (.slice none 0 0)
          have LD := run_loadVar_mid (P := Tryz.prog) _ w.heap.size 0 27 #[.slice none 0 0, .slice none 0 0, .slice none 0 0, .slice none 0 0].toList _ (fun j v hj => by rw [Nat.zero_add]; exact KF.cell (by simpa using hj)) Tryz.underlying27 rfl (by kernel_rfl)
          subst e
          exact bodyPost_ret (v := .tuple #[.agg #[.slice none 0 0, .slice none 0 0, .slice none 0 0, .slice none 0 0], .iface 66 (.agg #[.int .i64 (i : Int), .iface 64 (.agg #[.int .i64 5])])]) (by simp [results, Tryz.results13, asAddr]; rw [LD]; simp) rfl ⟨.inr ⟨rfl, rfl⟩, ((((on LP.out.bel B2.out).setCell (Nat.le_refl _) _).setCell (Nat.le_refl _) _).setCell (Nat.le_refl _) _).setCell (Nat.le_refl _) _⟩
        | some fz =>
          obtain ⟨f, zs⟩ := fz
          rw [hln] at RL
          clear hln
          generalize bq [] = SC at *
          generalize bq t = ST at *
          go_wp2_with (first
            | (go_at_call 24; refine IC.mono ?_; rintro e w1 ⟨rfl, b1⟩; have B1 : Hid (Below wr.heap.size wr w1) := b1; clear b1)
            | (go_at_call 25; refine (RL _ (GW.out.keep B1.out)).mono ?_; rintro e w2 ⟨⟨v, rfl, hN⟩, b2⟩; have B2 : Hid (Below wr.heap.size wr w2) := on B1.out b2; have KE : Hid (Kb w2 w.heap.size #[.slice none 0 0, .slice none 0 0, .slice none 0 0, .slice none 0 0] 27) := LP.out.res.keep B2.out; have t0 := KE.out.cell (i := 0) rfl; have f0 := KE.out.free 0; have t1 := KE.out.cell (i := 1) rfl; have f1 := KE.out.free 1; have t2 := KE.out.cell (i := 2) rfl; have f2 := KE.out.free 2; have t3 := KE.out.cell (i := 3) rfl; have f3 := KE.out.free 3; clear b2 hN))
          have KF : Kb _ w.heap.size #[.slice none 0 0, .slice none 0 0, .slice none 0 0, .slice none 0 0] 27 := (((KE.out.set 0 (.slice none 0 0)).set 1 (.slice none 0 0)).set 2 (.slice none 0 0)).set 3 (.slice none 0 0)
          have LD := run_loadVar_mid (P := Tryz.prog) _ w.heap.size 0 27 #[.slice none 0 0, .slice none 0 0, .slice none 0 0, .slice none 0 0].toList _ (fun j v hj => by rw [Nat.zero_add]; exact KF.cell (by simpa using hj)) Tryz.underlying27 rfl (by kernel_rfl)
          subst e
          exact bodyPost_ret (v := .tuple #[.agg #[.slice none 0 0, .slice none 0 0, .slice none 0 0, .slice none 0 0], .iface 66 (.agg #[.int .i64 (i : Int), .iface 64 (.agg #[.int .i64 5])])]) (by simp [results, Tryz.results13, asAddr]; rw [LD]; simp) rfl ⟨.inr ⟨rfl, rfl⟩, ((((on LP.out.bel B2.out).setCell (Nat.le_refl _) _).setCell (Nat.le_refl _) _).setCell (Nat.le_refl _) _).setCell (Nat.le_refl _) _⟩
end Go.Proofs.YtcdbhhhihhdghaaGreatDoor
namespace Go.Proofs.YtcdbhhhihhdghaaGreatDoor
open Go.RowKit
set_option linter.unusedVariables false

set_option maxHeartbeats 1000000 in
theorem code_two (i c : Int) (w : World) (hg : w.cell? ⟨0, 0, none⟩ = some (.iface 127 (.agg #[.pointer (some ⟨10, 43, none⟩)]))) :
    Calls Tryz.prog 15 #[.iface 66 (.agg #[.int .i64 i, .iface 64 (.agg #[.int .i64 c])])] w fun e w' => e = .returned (.int .i64 c) ∧ Below w.heap.size w w' := by
  have hgA : Hid (_ = _) := cell_push (.cells #[.int .i64 0] 64) hg
  have htA : Hid ((w.alloc (.cells #[.int .i64 0] 64)).cell? ⟨w.heap.size, 0, none⟩ = some (.int .i64 0)) := cell_new rfl
  have hfA : Hid ((w.alloc (.cells #[.int .i64 0] 64)).frozen? ⟨w.heap.size, 0, none⟩ = false) := by show _ = _; simp
  clear hg
  have AS : Calls Tryz.prog 33 #[.iface 66 (.agg #[.int .i64 i, .iface 64 (.agg #[.int .i64 c])]), .iface 70 (.pointer (some ⟨w.heap.size, 0, none⟩))] (w.alloc (.cells #[.int .i64 0] 64)) fun e w' => e = .returned (.bool true) ∧ w'.cell? ⟨w.heap.size, 0, none⟩ = some (.int .i64 c) ∧ Below w.heap.size w w' := (as_two i c ⟨w.heap.size, 0, none⟩ (.int .i64 0) (w.alloc (.cells #[.int .i64 0] 64)) hgA.out htA.out hfA.out).mono (by
    rintro e w' ⟨h1, w1, b1, rfl⟩
    exact ⟨h1, World.cell?_setCell_same _ _ _ (cell_keep b1 htA.out), (on (al (Below.refl _ _) _) b1).setCell (by simp) _⟩)
  go_enter Tryz.func15, Tryz.ntmps15
  go_wp2_with (go_at_call 33; refine AS.mono ?_; rintro e w' ⟨rfl, k1, B1⟩)
  go_ret
  exact ⟨rfl, B1⟩
set_option maxHeartbeats 1000000 in
theorem lines_line (i c : Int) (w : World) (hg : w.cell? ⟨0, 0, none⟩ = some (.iface 127 (.agg #[.pointer (some ⟨10, 43, none⟩)]))) :
    Calls Tryz.prog 16 #[.iface 66 (.agg #[.int .i64 i, .iface 64 (.agg #[.int .i64 c])])] w fun e w' => e = .returned (.int .i64 i) ∧ Below w.heap.size w w' := by
  have hgA : Hid (_ = _) := cell_push (.cells #[.int .i64 0, .nilIface] 66) hg
  have htA : Hid ((w.alloc (.cells #[.int .i64 0, .nilIface] 66)).cell? ⟨w.heap.size, 0, none⟩ = some (.int .i64 0)) := cell_new rfl
  have htB : Hid ((w.alloc (.cells #[.int .i64 0, .nilIface] 66)).cell? ⟨w.heap.size, 1, none⟩ = some .nilIface) := cell_new rfl
  have hfA : Hid (∀ k, (w.alloc (.cells #[.int .i64 0, .nilIface] 66)).frozen? ⟨w.heap.size, k, none⟩ = false) := fun k => by simp
  clear hg
  have AS : Calls Tryz.prog 33 #[.iface 66 (.agg #[.int .i64 i, .iface 64 (.agg #[.int .i64 c])]), .iface 71 (.pointer (some ⟨w.heap.size, 0, none⟩))] (w.alloc (.cells #[.int .i64 0, .nilIface] 66)) fun e w' => e = .returned (.bool true) ∧ w'.cell? ⟨w.heap.size, 0, none⟩ = some (.int .i64 i) ∧ Below w.heap.size w w' := (as_line i c ⟨w.heap.size, 0, none⟩ (.int .i64 0) .nilIface (w.alloc (.cells #[.int .i64 0, .nilIface] 66)) hgA.out htA.out htB.out (hfA.out 0) (hfA.out 1) rfl).mono (by
    rintro e w' ⟨h1, w1, b1, rfl⟩
    refine ⟨h1, ?_, ((on (al (Below.refl _ _) _) b1).setCell (by simp) _).setCell (by show w.heap.size ≤ w.heap.size; exact Nat.le_refl _) _⟩
    rw [World.cell?_setCell_other _ _ _ _ (by intro e; have := congrArg Addr.off e; exact absurd this (by show (1 : Nat) ≠ 0; decide))]
    exact World.cell?_setCell_same _ _ _ (cell_keep b1 htA.out))
  go_enter Tryz.func16, Tryz.ntmps16
  go_wp2_with (go_at_call 33; refine AS.mono ?_; rintro e w' ⟨rfl, k1, B1⟩)
  go_ret
  exact ⟨rfl, B1⟩
set_option maxHeartbeats 1000000 in
theorem lines_miss (c : Int) (w : World) (hg : w.cell? ⟨0, 0, none⟩ = some (.iface 127 (.agg #[.pointer (some ⟨10, 43, none⟩)]))) :
    Calls Tryz.prog 16 #[.iface 64 (.agg #[.int .i64 c])] w fun e w' => e = .returned (.int .i64 0) ∧ Below w.heap.size w w' := by
  have AS := as_miss c ⟨w.heap.size, 0, none⟩ (.int .i64 0) (w.alloc (.cells #[.int .i64 0, .nilIface] 66)) (cell_push _ hg) (cell_new rfl)
  clear hg
  go_enter Tryz.func16, Tryz.ntmps16
  go_wp2_with (go_at_call 33; refine AS.mono ?_; rintro e w' ⟨rfl, B1⟩)
  go_ret
  exact ⟨rfl, on (al (Below.refl _ _) _) B1⟩
theorem Wp.putR {w : World} {base q i : Nat} {v0 v1 v2 v3 u : Value} {P : Plc} {xs : List Value} {cs : Array Value} (h : Wp w base v0 v1 v2 v3 P xs) (k : Kb w q cs 29) : Wp (w.setCell ⟨q, i, none⟩ u) base v0 v1 v2 v3 P xs :=
  ⟨row_put h.own k (by decide), h.xl, fun i x e => row_put (h.rows i x e) k (by decide), h.apart, row_put h.lanes k (by decide), row_put h.bells k (by decide), row_put h.plan k (by decide)⟩
theorem Wp.put6 {w : World} {base q : Nat} {v0 v1 v2 v3 u0 u1 u2 u3 u4 u5 : Value} {P : Plc} {xs : List Value} {cs : Array Value} (h : Wp w base v0 v1 v2 v3 P xs) (k : Kb w q cs 29) : Wp ((((((w.setCell ⟨q, 0, none⟩ u0).setCell ⟨q, 1, none⟩ u1).setCell ⟨q, 2, none⟩ u2).setCell ⟨q, 3, none⟩ u3).setCell ⟨q, 4, none⟩ u4).setCell ⟨q, 5, none⟩ u5) base v0 v1 v2 v3 P xs :=
  (((((h.putR k).putR (k.set 0 u0)).putR ((k.set 0 u0).set 1 u1)).putR (((k.set 0 u0).set 1 u1).set 2 u2)).putR ((((k.set 0 u0).set 1 u1).set 2 u2).set 3 u3)).putR (((((k.set 0 u0).set 1 u1).set 2 u2).set 3 u3).set 4 u4)
/-- What reading a policy answers. -/
def ppO (w w' : World) (r : Int × Nat × Plc) (e : Ending) : Prop := ∃ v0 v1 v2 v3 xs, e = .returned (.agg #[.int .i64 r.1, .int .i64 (r.2.1 : Int), v0, v1, v2, v3]) ∧ Wp w' w.heap.size v0 v1 v2 v3 r.2.2 xs
set_option maxRecDepth 20000 in
set_option maxHeartbeats 8000000 in
theorem i_parsePolicy (tx : Wb) (hl : tx.length ≤ 1048576) (w : World) (g : Gp w) : Calls Tryz.prog 5 #[.string (bq tx)] w fun e w' => ppO w w' (ppV tx) e ∧ Below w.heap.size w w' := by
  have hz : (bq tx).size = tx.length := bq_size tx
  have G : Hid (Gp w) := g
  obtain ⟨n, hn⟩ : ∃ n, tx.length = n := ⟨_, rfl⟩
  have hnI : (n : Int) ≤ 1048576 := by omega
  by_cases hb : 1000 < n
  · have e : ppV tx = (2, 0, vdP) := by unfold ppV; rw [if_pos (by omega)]
    have hI : (1000 : Int) < (n : Int) := by omega
    rw [e]
    rw [hn] at hz
    clear e hn hl g
    generalize bq tx = S at *
    go_enter Tryz.func5, Tryz.ntmps5
    go_wp2_with fail
    exact bodyPost_ret (v := .agg #[.int .i64 2, .int .i64 0, .slice none 0 0, .slice none 0 0, .slice none 0 0, .slice none 0 0]) (by simp [results, Tryz.results5, go_sem]) rfl ⟨⟨_, _, _, _, _, rfl, Wp.void _ _⟩, al (Below.refl _ _) _⟩
  have hI : (n : Int) ≤ 1000 := by omega
  have RP := fun w1 (g1 : Gp w1) => i_readPolicy tx (by omega) w1 g1
  have hpp : ppV tx = if (rdP (spl 10 tx []) 0 0 vdP).1 = 0 then (if pfV (rdP (spl 10 tx []) 0 0 vdP).2.2 = 0 then (0, 0, (rdP (spl 10 tx []) 0 0 vdP).2.2) else (pfV (rdP (spl 10 tx []) 0 0 vdP).2.2, 0, vdP)) else ((rdP (spl 10 tx []) 0 0 vdP).1, (rdP (spl 10 tx []) 0 0 vdP).2.1, vdP) := by unfold ppV; rw [if_neg (by omega)]
  obtain ⟨V, hV⟩ : ∃ V, ppV tx = V := ⟨_, rfl⟩
  obtain ⟨R, hR⟩ : ∃ R, rdP (spl 10 tx []) 0 0 vdP = R := ⟨_, rfl⟩
  rw [hR] at hpp RP
  rw [hV] at hpp ⊢
  have HP : Hid (V = if R.1 = 0 then (if pfV R.2.2 = 0 then (0, 0, R.2.2) else (pfV R.2.2, 0, vdP)) else (R.1, R.2.1, vdP)) := hpp
  rw [hn] at hz
  clear hpp hV hR hn hl hb g
  generalize bq tx = S at *
  have GA : Hid (∀ o, Gp (w.alloc o)) := fun o => G.out.keep (al (Below.refl _ _) _)
  go_enter Tryz.func5, Tryz.ntmps5
  go_wp2_with fail
  refine (RP _ (GA.out _)).mono ?_
  clear RP
  rintro e w1 ⟨hq, b1⟩
  have B1 : Hid (Below w.heap.size w w1) := on (al (Below.refl _ _) _) b1
  have K1 : Hid (Kb w1 w.heap.size #[.int .i64 0, .int .i64 0, .slice none 0 0, .slice none 0 0, .slice none 0 0, .slice none 0 0] 29) := (Kb.new w _ _).keep b1
  have L1 : Hid (w.heap.size < w1.heap.size) := K1.out.lt
  clear b1
  rcases hq with ⟨h0, v0, v1, v2, v3, xs, rfl, hW⟩ | ⟨h5, rfl⟩
  · obtain ⟨b0, b1, b2, b3, d0, d1, d2, d3, rfl, rfl, rfl, rfl⟩ := hW.shape
    have WP : Hid (Wp w1 (w.heap.size + 1) (.slice b0 R.2.2.own.length d0) (.slice b1 R.2.2.lanes.length d1) (.slice b2 R.2.2.bells.length d2) (.slice b3 R.2.2.plan.length d3) R.2.2 xs) := by
      have h := hW
      rw [show (w.alloc (.cells #[.int .i64 0, .int .i64 0, .slice none 0 0, .slice none 0 0, .slice none 0 0, .slice none 0 0] 29)).heap.size = w.heap.size + 1 by simp] at h
      exact h
    have HV : Hid (V = if pfV R.2.2 = 0 then (0, 0, R.2.2) else (pfV R.2.2, 0, vdP)) := by have := HP.out; rw [if_pos h0] at this; exact this
    have IC := fun w2 (b : Below w1.heap.size w1 w2) => i_check _ _ _ _ _ _ _ _ _ _ _ _ R.2.2 w2 (hW.pl.stay b)
    clear hW h0 HP
    generalize R.2.2.own.length = n0 at *
    generalize R.2.2.lanes.length = n1 at *
    generalize R.2.2.bells.length = n2 at *
    generalize R.2.2.plan.length = n3 at *
    by_cases hf : pfV R.2.2 = 0
    · have e : V = (0, 0, R.2.2) := by have := HV.out; rw [if_pos hf] at this; exact this
      subst e
      rw [hf] at IC
      have ez : errV 0 = .nilIface := rfl
      rw [ez] at IC
      clear ez hf HV
      go_wp2_with (go_at_call 14; refine (IC _ (al (Below.refl _ _) _)).mono ?_; rintro e w2 ⟨rfl, bb⟩; have B2 : Hid (Below w1.heap.size w1 w2) := on (al (Below.refl _ _) _) bb; have P2 : Hid (Kb w2 w1.heap.size #[.slice b0 n0 d0, .slice b1 n1 d1, .slice b2 n2 d2, .slice b3 n3 d3] 27) := (Kb.new w1 _ _).keep bb; have q0 := P2.out.cell (i := 0) rfl; have q1 := P2.out.cell (i := 1) rfl; have q2 := P2.out.cell (i := 2) rfl; have q3 := P2.out.cell (i := 3) rfl; have K2 : Hid (Kb w2 w.heap.size _ _) := K1.out.keep B2.out; have r0 := K2.out.cell (i := 0) rfl; have r1 := K2.out.cell (i := 1) rfl; have r2 := K2.out.cell (i := 2) rfl; have r3 := K2.out.cell (i := 3) rfl; have r4 := K2.out.cell (i := 4) rfl; have r5 := K2.out.cell (i := 5) rfl; have t0 := K2.out.free 0; have t1 := K2.out.free 1; have t2 := K2.out.free 2; have t3 := K2.out.free 3; have t4 := K2.out.free 4; have t5 := K2.out.free 5; clear bb)
      have KF : Kb _ w.heap.size #[.int .i64 0, .int .i64 0, .slice b0 n0 d0, .slice b1 n1 d1, .slice b2 n2 d2, .slice b3 n3 d3] 29 := (((((K2.out.set 0 (.int .i64 0)).set 1 (.int .i64 0)).set 2 (.slice b0 n0 d0)).set 3 (.slice b1 n1 d1)).set 4 (.slice b2 n2 d2)).set 5 (.slice b3 n3 d3)
      have LD := run_loadVar_mid (P := Tryz.prog) _ w.heap.size 0 29 #[.int .i64 0, .int .i64 0, .slice b0 n0 d0, .slice b1 n1 d1, .slice b2 n2 d2, .slice b3 n3 d3].toList _ (fun j v hj => by rw [Nat.zero_add]; exact KF.cell (by simpa using hj)) Tryz.underlying29 rfl (by kernel_rfl)
      exact bodyPost_ret (v := .agg #[.int .i64 0, .int .i64 0, .slice b0 n0 d0, .slice b1 n1 d1, .slice b2 n2 d2, .slice b3 n3 d3]) (by simp [results, Tryz.results5, asAddr]; rw [LD]) rfl ⟨⟨_, _, _, _, xs, rfl, ((WP.out.keep B2.out).mono (by omega)).put6 K2.out⟩, (((((((on B1.out B2.out).setCell (Nat.le_refl _) _).setCell (Nat.le_refl _) _).setCell (Nat.le_refl _) _).setCell (Nat.le_refl _) _).setCell (Nat.le_refl _) _).setCell (Nat.le_refl _) _)⟩
    · have e : V = (pfV R.2.2, 0, vdP) := by have := HV.out; rw [if_neg hf] at this; exact this
      subst e
      have ez : errV (pfV R.2.2) = .iface 64 (.agg #[.int .i64 (pfV R.2.2)]) := by unfold errV; rw [if_neg hf]
      rw [ez] at IC
      clear ez hf HV
      go_wp2_with (first
        | (go_at_call 14; refine (IC _ (al (Below.refl _ _) _)).mono ?_; rintro e w2 ⟨rfl, b2⟩; have B2 : Hid (Below w1.heap.size w1 w2) := on (al (Below.refl _ _) _) b2; have G2 : Hid (Gp w2) := (G.out.keep B1.out).keep B2.out; clear b2)
        | (go_at_call 15; refine (code_hit _ _ G2.out.et).mono ?_; rintro e w3 ⟨rfl, b3⟩; have B3 : Hid (Below w2.heap.size w2 w3) := b3; clear b3)
        | (go_at_call 16; refine (lines_miss _ _ (G2.out.keep B3.out).et).mono ?_; rintro e w4 ⟨rfl, b4⟩; have B4 : Hid (Below w2.heap.size w2 w4) := on B3.out b4; have K2 : Hid (Kb w4 w.heap.size _ _) := (K1.out.keep B2.out).keep B4.out; have r0 := K2.out.cell (i := 0) rfl; have r1 := K2.out.cell (i := 1) rfl; have r2 := K2.out.cell (i := 2) rfl; have r3 := K2.out.cell (i := 3) rfl; have r4 := K2.out.cell (i := 4) rfl; have r5 := K2.out.cell (i := 5) rfl; have t0 := K2.out.free 0; have t1 := K2.out.free 1; have t2 := K2.out.free 2; have t3 := K2.out.free 3; have t4 := K2.out.free 4; have t5 := K2.out.free 5; clear b4))
      have KF : Kb _ w.heap.size #[.int .i64 (pfV R.2.2), .int .i64 0, .slice none 0 0, .slice none 0 0, .slice none 0 0, .slice none 0 0] 29 := (((((K2.out.set 0 (.int .i64 (pfV R.2.2))).set 1 (.int .i64 0)).set 2 (.slice none 0 0)).set 3 (.slice none 0 0)).set 4 (.slice none 0 0)).set 5 (.slice none 0 0)
      have LD := run_loadVar_mid (P := Tryz.prog) _ w.heap.size 0 29 #[.int .i64 (pfV R.2.2), .int .i64 0, .slice none 0 0, .slice none 0 0, .slice none 0 0, .slice none 0 0].toList _ (fun j v hj => by rw [Nat.zero_add]; exact KF.cell (by simpa using hj)) Tryz.underlying29 rfl (by kernel_rfl)
      exact bodyPost_ret (v := .agg #[.int .i64 (pfV R.2.2), .int .i64 0, .slice none 0 0, .slice none 0 0, .slice none 0 0, .slice none 0 0]) (by simp [results, Tryz.results5, asAddr]; rw [LD]) rfl ⟨⟨_, _, _, _, [], rfl, Wp.void _ _⟩, (((((((on (on B1.out B2.out) B4.out)).setCell (Nat.le_refl _) _).setCell (Nat.le_refl _) _).setCell (Nat.le_refl _) _).setCell (Nat.le_refl _) _).setCell (Nat.le_refl _) _).setCell (Nat.le_refl _) _⟩
  · have e : V = (5, R.2.1, vdP) := by have := HP.out; rw [if_neg (by rw [h5]; decide), h5] at this; exact this
    subst e
    skip
    clear HP h5
    have G2 : Hid (Gp w1) := G.out.keep B1.out
    go_wp2_with (first
      | (go_at_call 15; refine (code_two _ _ _ (G2.out.keep (al (Below.refl _ _) _)).et).mono ?_; rintro e w3 ⟨rfl, b3⟩; have B3 : Hid (Below w1.heap.size w1 w3) := on (al (Below.refl _ _) _) b3; clear b3)
      | (go_at_call 16; refine (lines_line _ _ _ (G2.out.keep B3.out).et).mono ?_; rintro e w4 ⟨rfl, b4⟩; have B4 : Hid (Below w1.heap.size w1 w4) := on B3.out b4; have K2 : Hid (Kb w4 w.heap.size _ _) := K1.out.keep B4.out; have r0 := K2.out.cell (i := 0) rfl; have r1 := K2.out.cell (i := 1) rfl; have r2 := K2.out.cell (i := 2) rfl; have r3 := K2.out.cell (i := 3) rfl; have r4 := K2.out.cell (i := 4) rfl; have r5 := K2.out.cell (i := 5) rfl; have t0 := K2.out.free 0; have t1 := K2.out.free 1; have t2 := K2.out.free 2; have t3 := K2.out.free 3; have t4 := K2.out.free 4; have t5 := K2.out.free 5; clear b4))
    have KF : Kb _ w.heap.size #[.int .i64 5, .int .i64 (R.2.1 : Int), .slice none 0 0, .slice none 0 0, .slice none 0 0, .slice none 0 0] 29 := (((((K2.out.set 0 (.int .i64 5)).set 1 (.int .i64 (R.2.1 : Int))).set 2 (.slice none 0 0)).set 3 (.slice none 0 0)).set 4 (.slice none 0 0)).set 5 (.slice none 0 0)
    have LD := run_loadVar_mid (P := Tryz.prog) _ w.heap.size 0 29 #[.int .i64 5, .int .i64 (R.2.1 : Int), .slice none 0 0, .slice none 0 0, .slice none 0 0, .slice none 0 0].toList _ (fun j v hj => by rw [Nat.zero_add]; exact KF.cell (by simpa using hj)) Tryz.underlying29 rfl (by kernel_rfl)
    exact bodyPost_ret (v := .agg #[.int .i64 5, .int .i64 (R.2.1 : Int), .slice none 0 0, .slice none 0 0, .slice none 0 0, .slice none 0 0]) (by simp [results, Tryz.results5, asAddr]; rw [LD]) rfl ⟨⟨_, _, _, _, [], rfl, Wp.void _ _⟩, (((((((on B1.out B4.out)).setCell (Nat.le_refl _) _).setCell (Nat.le_refl _) _).setCell (Nat.le_refl _) _).setCell (Nat.le_refl _) _).setCell (Nat.le_refl _) _).setCell (Nat.le_refl _) _⟩
end Go.Proofs.YtcdbhhhihhdghaaGreatDoor
