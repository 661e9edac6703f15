/- Texts of this seat, joined. -/
import Derived.Test.YtggejbphdadckaaGreatDoorQ04
import Derived.Test.YtggejbphdadckaaGreatDoorQ27
namespace Go.Proofs.YtggejbphdadckaaGreatDoor
open Go.RowKit
set_option linter.unusedVariables false

/-- What a lane says of the page k of a guest. -/
def matchL (g k : Int) (l : Ln) : Option (Int × Int) := if l.fr = g ∧ l.af = k then some (l.pg, 3) else if l.dst = g ∧ l.tt = k then some (l.pg, 1) else none
def firstM (g k : Int) : List Ln → Int × Int
  | [] => (-1, 0)
  | l :: t => match matchL g k l with | some x => x | none => firstM g k t
/-- The page k of a guest who owns ow. -/
def pageV (ow : List Int) (ls : List Ln) (g : Int) (k : Nat) : Int × Int := if k < ow.length then (ow.getD k 0, 7) else firstM g k ls
def pforL (ow : List Int) (ls : List Ln) (g : Int) (j : Nat) : List (Int × Int) := (List.range j).map (pageV ow ls g)
theorem pforL_len (ow : List Int) (ls : List Ln) (g : Int) (j : Nat) : (pforL ow ls g j).length = j := by simp [pforL]
theorem pforL_succ (ow : List Int) (ls : List Ln) (g : Int) (j : Nat) : pforL ow ls g (j + 1) = pforL ow ls g j ++ [((pageV ow ls g j).1, (pageV ow ls g j).2)] := by
  simp [pforL, List.range_succ]
theorem firstM_step (g k : Int) (ls : List Ln) (j : Nat) (h : j < ls.length) : firstM g k (ls.drop j) = match matchL g k (ls.getD j lz) with | some x => x | none => firstM g k (ls.drop (j + 1)) := by
  rw [drop_cons_getD ls lz j h, firstM]
theorem pf_own (P : Plc) (h : pfV P = 0) (j : Nat) (hj : j < P.own.length) : 1 ≤ (P.own.getD j []).length ∧ (P.own.getD j []).length ≤ 5 ∧ ∀ x ∈ P.own.getD j [], 0 ≤ x ∧ x ≤ 23 :=
  guests_all P.own (pf_parts P h).2.1 _ (getD_mem P.own [] j hj)
end Go.Proofs.YtggejbphdadckaaGreatDoor
namespace Go.Proofs.YtggejbphdadckaaGreatDoor
open Go.RowKit
set_option linter.unusedVariables false

theorem i_clock (c : Int) (w : World) : Calls Tryz.prog 56 #[.int .i64 c] w fun e w' => e = .returned (.bool (ckOk c)) ∧ w' = w := by
  by_cases h : 0 ≤ c
  · by_cases k : c ≤ 1000000
    · have E : ckOk c = true := by simp [ckOk, h, k]
      rw [E]
      go_enter Tryz.func56, Tryz.ntmps56
      go_wp2_with fail
      go_ret
      exact ⟨rfl, rfl⟩
    · have E : ckOk c = false := by simp [ckOk, k]
      rw [E]
      go_enter Tryz.func56, Tryz.ntmps56
      go_wp2_with fail
      go_ret
      exact ⟨rfl, rfl⟩
  · have E : ckOk c = false := by simp [ckOk, h]
    rw [E]
    go_enter Tryz.func56, Tryz.ntmps56
    go_wp2_with fail
    go_ret
    exact ⟨rfl, rfl⟩

set_option maxRecDepth 20000 in
set_option maxHeartbeats 4000000 in
theorem i_turnAt (a0 a1 a2 a3 : Option Addr) (n0 c0 n1 c1 n2 c2 n3 c3 : Nat) (P : Plc) (c : Int) (w : World) (h : Pl w a0 n0 c0 a1 n1 c1 a2 n2 c2 a3 n3 c3 P) (hg : w.cell? ⟨0, 0, none⟩ = some (.iface 200 (.agg #[.pointer (some ⟨1, 136, none⟩)]))) (hz : pfV P = 0) (hc : 0 ≤ c) (hc1 : c ≤ 1000000) :
    Calls Tryz.prog 58 #[.agg #[.slice a0 n0 c0, .slice a1 n1 c1, .slice a2 n2 c2, .slice a3 n3 c3], .int .i64 c] w fun e w' => e = .returned (.agg #[.int .i64 (tS P c).1, .int .i64 (tS P c).2, .int .i64 c]) ∧ Below w.heap.size w w' := by
  have PZ : Hid (pfV P = 0) := hz
  have HC : Hid (0 ≤ c ∧ c ≤ 1000000) := ⟨hc, hc1⟩
  obtain ⟨u, hu⟩ : ∃ u, tS P c = u := ⟨_, rfl⟩
  rw [hu]
  have HU : Hid (tS P c = u) := hu
  clear hz hu
  generalize hW : (w.alloc (.cells #[.slice a0 n0 c0, .slice a1 n1 c1, .slice a2 n2 c2, .slice a3 n3 c3] 37)).alloc (.cells #[.int .i64 0, .int .i64 0, .int .i64 0] 98) = W
  have B0 : Hid (Below w.heap.size w W) := by show Below _ _ _; rw [← hW]; exact al (al (Below.refl _ _) _) _
  obtain ⟨s, hS⟩ : ∃ s, w.heap.size = s := ⟨_, rfl⟩
  have HSs : Hid (w.heap.size = s) := hS
  have Q : Hid (W.cell? ⟨s, 0, none⟩ = some (.slice a0 n0 c0) ∧ W.cell? ⟨s, 1, none⟩ = some (.slice a1 n1 c1) ∧ W.cell? ⟨s, 2, none⟩ = some (.slice a2 n2 c2) ∧ W.cell? ⟨s, 3, none⟩ = some (.slice a3 n3 c3)) := by
    show _ ∧ _
    rw [← hW, ← hS]
    exact ⟨cell_push _ (cell_new rfl), cell_push _ (cell_new rfl), cell_push _ (cell_new rfl), cell_push _ (cell_new rfl)⟩
  have R : Hid (Vb W (s + 1) #[.int .i64 0, .int .i64 0, .int .i64 0] 98) := by
    have z1 : s + 1 = (w.alloc (.cells #[.slice a0 n0 c0, .slice a1 n1 c1, .slice a2 n2 c2, .slice a3 n3 c3] 37)).heap.size := by rw [← hS]; simp
    show Vb _ _ _ _
    rw [← hW, z1]
    exact Vb.new _ _ _
  have HP : Hid (Pl W a0 n0 c0 a1 n1 c1 a2 n2 c2 a3 n3 c3 P) := h.stay B0.out
  have HA : Hid (PolAt W s P) := ⟨_, _, _, _, _, _, _, _, _, _, _, _, Q.out.1, Q.out.2.1, Q.out.2.2.1, Q.out.2.2.2, HP.out⟩
  have HG : Hid (W.cell? ⟨0, 0, none⟩ = some (.iface 200 (.agg #[.pointer (some ⟨1, 136, none⟩)]))) := cell_keep B0.out hg
  clear h hg
  have q0 := Q.out.1
  have q1 := Q.out.2.1
  have q2 := Q.out.2.2.1
  have q3 := Q.out.2.2.2
  have fv := field_value
  go_enter Tryz.func58, Tryz.ntmps58
  go_wp2_with fail
  clear hW hS
  refine (i_roundOf _ _ _ _ _ _ _ _ _ _ _ _ P _ HP.out HG.out).mono ?_
  rintro e w1 ⟨rfl, b1⟩
  have RV : rR P = (0, rdV P.plan) := by rw [rR, if_pos PZ.out]
  rw [RV]
  clear RV
  have RP := rd_pos P PZ.out
  obtain ⟨rr, hrr⟩ : ∃ r, rdV P.plan = r := ⟨_, rfl⟩
  rw [hrr] at RP
  have HR : Hid (rdV P.plan = rr) := hrr
  simp only
  rw [hrr]
  clear hrr
  have r1 := RP.1
  have r2 := RP.2
  have tm : c.tmod rr = c % rr := Int.tmod_eq_emod_of_nonneg hc
  have m0 : 0 ≤ c % rr := Int.emod_nonneg _ (by omega)
  have m1 : c % rr < rr := Int.emod_lt_of_pos _ (by omega)
  obtain ⟨m, hm⟩ : ∃ m, c % rr = m := ⟨_, rfl⟩
  rw [hm] at tm m0 m1
  have HM : Hid (c % rr = m) := hm
  have M01 : Hid (0 ≤ m ∧ m < rr) := ⟨m0, m1⟩
  have R4 : Hid (rr ≤ 400) := r2
  clear hm RP
  have HPw : Hid (Pl w1 a0 n0 c0 a1 n1 c1 a2 n2 c2 a3 n3 c3 P) := HP.out.stay b1
  have HL3 : Hid (n3 = P.plan.length) := HPw.out.plan.len
  have L8 : Hid (1 ≤ n3 ∧ n3 ≤ 8) := by show _ ∧ _; rw [HPw.out.plan.len]; exact ⟨pf_plan1 P PZ.out, (pf_plan P PZ.out).1⟩
  have ST8 : Hid (∀ j, j < P.plan.length → 1 ≤ (P.plan.getD j (0, 0)).2 ∧ (P.plan.getD j (0, 0)).2 ≤ 50) := (pf_plan P PZ.out).2
  have q3 := cell_keep b1 Q.out.2.2.2
  have R1 : Hid (Vb w1 (s + 1) #[.int .i64 0, .int .i64 0, .int .i64 0] 98) := R.out.keep b1
  have B1 : Hid (Below w.heap.size w w1) := on B0.out b1
  clear b1
  go_wp2_with fail
  go_loop [5, 6] (fun u v => ∃ j : Nat, j < n3 ∧ v = .int .i64 j ∧ u = .int .i64 (m - rdV (P.plan.take j)) ∧ rdV (P.plan.take j) ≤ m) (fun _ v => n3 - (intOf v).toNat)
  case atStart => exact ⟨0, L8.out.1, rfl, by simp [rdV], by simp [rdV]; exact M01.out.1⟩
  case round =>
    obtain ⟨j, hlt, rfl, rfl, hle⟩ := hrel
    obtain ⟨x, rfl, k0, k1⟩ := HPw.out.plan.at j hlt
    have HLT : Hid (j < n3) := hlt
    have hJ : (j : Int) < (n3 : Int) := by omega
    have J8 : (j : Int) ≤ 8 := by have := L8.out; omega
    have TK : Hid (_ = _) := rdV_take P.plan j (by have := HL3.out; omega)
    have st := ST8.out j (by have := HL3.out; omega)
    have bd := rd_bound P PZ.out j (by have := HL3.out; omega)
    have bd0 := bd.1
    have bd1 : rdV (P.plan.take j) ≤ 400 := by have := L8.out; omega
    have st0 := st.1
    have st1 := st.2
    have mm := M01.out
    have m40 : m ≤ 400 := by have := R4.out; omega
    obtain ⟨⟨g, t⟩, hL⟩ : ∃ L, P.plan.getD j (0, 0) = L := ⟨_, rfl⟩
    rw [hL] at k0 k1 TK st0 st1
    simp only at k0 k1 TK st0 st1
    clear hL bd st
    obtain ⟨sm, hsm⟩ : ∃ z, rdV (P.plan.take j) = z := ⟨_, rfl⟩
    rw [hsm] at TK bd0 bd1 hle ⊢
    have HSM : Hid (rdV (P.plan.take j) = sm) := hsm
    clear hsm
    by_cases he : t ≤ m - sm
    · have TK2 : Hid (rdV (P.plan.take (j + 1)) = sm + t) := TK.out
      have JN : Hid (j + 1 < n3) := by
        show _ < _
        rcases Nat.lt_or_ge (j + 1) n3 with h | h
        · exact h
        · exfalso
          have e : P.plan.take (j + 1) = P.plan := List.take_of_length_le (by have := HL3.out; omega)
          have := TK2.out
          rw [e, HR.out] at this
          omega
      go_wp2_with fail
      go_round
      case rel => exact ⟨j + 1, JN.out, by go_num, by rw [TK2.out]; go_num, by rw [TK2.out]; omega⟩
      case measure => have := HLT.out; simp [intOf]; omega
    · have EV := tS_at P PZ.out c j (by have := HL3.out; omega) (by rw [HSM.out, HR.out, HM.out]; exact hle) (by rw [TK.out, HR.out, HM.out]; omega)
      rw [TK.out, HR.out, HM.out, HU.out] at EV
      subst EV
      have r0 := R1.out.cell 0 rfl
      have r1 := R1.out.cell 1 rfl
      have r2 := R1.out.cell 2 rfl
      have f0 := R1.out.free 0
      have f1 := R1.out.free 1
      have f2 := R1.out.free 2
      have e1 : t - (m - sm) = sm + t - m := by omega
      go_wp2_with fail
      exact bodyPost_ret (v := .agg #[.int .i64 (j : Int), .int .i64 (sm + t - m), .int .i64 c]) (by simp [results, Tryz.results58, go_sem, r0, r1, r2]) rfl ⟨rfl, (((B1.out).setCell (by have := HSs.out; show w.heap.size ≤ s + 1; omega) _).setCell (by have := HSs.out; show w.heap.size ≤ s + 1; omega) _).setCell (by have := HSs.out; show w.heap.size ≤ s + 1; omega) _⟩
end Go.Proofs.YtggejbphdadckaaGreatDoor
