/- Texts of this seat, joined. -/
import Derived.Deep.RegionHeld3
import Derived.Deep.WholeRow
import Derived.Deep.Cut
import Derived.Deep.CutRange
import Derived.BigQuiet
import Derived.Deep.RegionWith
import Derived.Test.YtggejbphdadckaaGreatDoorQ18
import Derived.Test.YtggejbphdadckaaGreatDoorQ21
import Derived.Test.YtggejbphdadckaaGreatDoorQ26
import Derived.Test.YtggejbphdadckaaGreatDoorQ29
import Derived.Test.YtggejbphdadckaaGreatDoorQ31
import Derived.Test.YtggejbphdadckaaGreatDoorQ42
import Derived.Test.YtggejbphdadckaaGreatDoorQ45
import Derived.Test.YtggejbphdadckaaGreatDoorQ46
namespace Go.Proofs.YtggejbphdadckaaGreatDoor
open Go.RowKit
set_option linter.unusedVariables false
def C2 (w : World) (s : Nat) (a b : Value) : Prop := w.cell? ⟨s, 0, none⟩ = some a ∧ w.cell? ⟨s, 1, none⟩ = some b
theorem C2.keep {w w' : World} {s : Nat} {a b : Value} (h : C2 w s a b) (k : Below w.heap.size w w') : C2 w' s a b := ⟨cell_keep k h.1, cell_keep k h.2⟩
theorem C2.mk {w w' : World} {s lo hi : Nat} {a b : Value} (h : C2 w s a b) (m : Mk lo hi w w') (hp : s < lo ∨ hi ≤ s) : C2 w' s a b := ⟨m.cell h.1 hp, m.cell h.2 hp⟩
theorem C2.grown {w w' : World} {s : Nat} {a b : Value} {row : Option Nat} (h : C2 w s a b) (g : w.grownBy w' row) (hn : some s ≠ row) : C2 w' s a b := ⟨cell_grown g h.1 hn, cell_grown g h.2 hn⟩
theorem C2.new (w : World) (a b : Value) (t : TypeId) : C2 (w.alloc (.cells #[a, b] t)) w.heap.size a b := ⟨cell_new rfl, cell_new rfl⟩
theorem C2.lt {w : World} {s : Nat} {a b : Value} (h : C2 w s a b) : s < w.heap.size := block_of_cell h.1
def C4 (w : World) (s : Nat) (a b c d : Value) : Prop := w.cell? ⟨s, 0, none⟩ = some a ∧ w.cell? ⟨s, 1, none⟩ = some b ∧ w.cell? ⟨s, 2, none⟩ = some c ∧ w.cell? ⟨s, 3, none⟩ = some d
theorem C4.keep {w w' : World} {s : Nat} {a b c d : Value} (h : C4 w s a b c d) (k : Below w.heap.size w w') : C4 w' s a b c d := ⟨cell_keep k h.1, cell_keep k h.2.1, cell_keep k h.2.2.1, cell_keep k h.2.2.2⟩
theorem C4.mk {w w' : World} {s lo hi : Nat} {a b c d : Value} (h : C4 w s a b c d) (m : Mk lo hi w w') (hp : s < lo ∨ hi ≤ s) : C4 w' s a b c d := ⟨m.cell h.1 hp, m.cell h.2.1 hp, m.cell h.2.2.1 hp, m.cell h.2.2.2 hp⟩
theorem C4.grown {w w' : World} {s : Nat} {a b c d : Value} {row : Option Nat} (h : C4 w s a b c d) (g : w.grownBy w' row) (hn : some s ≠ row) : C4 w' s a b c d := ⟨cell_grown g h.1 hn, cell_grown g h.2.1 hn, cell_grown g h.2.2.1 hn, cell_grown g h.2.2.2 hn⟩
theorem C4.new (w : World) (a b c d : Value) (t : TypeId) : C4 (w.alloc (.cells #[a, b, c, d] t)) w.heap.size a b c d := ⟨cell_new rfl, cell_new rfl, cell_new rfl, cell_new rfl⟩
theorem C4.lt {w : World} {s : Nat} {a b c d : Value} (h : C4 w s a b c d) : s < w.heap.size := block_of_cell h.1
def Sg (w : World) (s t j : Nat) (L : Int) (c3 n3 : Nat) (x : Addr) (g : Int) : Prop :=
  w.cell? ⟨t, 0, none⟩ = some (.int .i64 (j : Int)) ∧ w.cell? ⟨t, 1, none⟩ = some (.int .i64 L) ∧ w.cell? ⟨s, 3, none⟩ = some (.slice (some x) n3 c3) ∧ w.cell? (x.add (j * 2)) = some (.int .i64 g) ∧ w.there (s + 1) 0 4
theorem Sg.put {w : World} {s t j : Nat} {L : Int} {c3 n3 : Nat} {x : Addr} {g : Int} (h : Sg w s t j L c3 n3 x g) (vs : List Value) (hn : t ≠ s + 1 ∧ (x.add (j * 2)).block ≠ s + 1) : Sg (w.setCells (s + 1) 0 vs) s t j L c3 n3 x g :=
  ⟨(World.cell?_setCells_out _ _ _ _ _ fun e => absurd e hn.1).trans h.1, (World.cell?_setCells_out _ _ _ _ _ fun e => absurd e hn.1).trans h.2.1, (World.cell?_setCells_out _ _ _ _ _ fun e => absurd e (show s ≠ s + 1 by omega)).trans h.2.2.1, (World.cell?_setCells_out _ _ _ _ _ fun e => absurd e hn.2).trans h.2.2.2.1, World.there_setCells h.2.2.2.2 _ _ _⟩
set_option maxRecDepth 20000 in
set_option maxHeartbeats 4000000 in
theorem s_turn (q : Nat) (c : Int) (P : Plc) (w : World) (h : PolAt w q P) (hz : pfV P = 0) (hc : 0 ≤ c) (hc1 : c ≤ 1000000) :
    Calls Tryz.prog 43 #[.pointer (some ⟨q, 0, none⟩), .int .i64 c] w fun e w' => e = .returned (.tuple #[.int .i64 (tS P c).1, .int .i64 (tS P c).2]) ∧ Below w.heap.size w w' := by
  have PZ : Hid (pfV P = 0) := hz
  obtain ⟨u, hu⟩ : ∃ u, tS P c = u := ⟨_, rfl⟩
  rw [hu]
  have HU : Hid (tS P c = u) := hu
  obtain ⟨a0, n0, c0, a1, n1, c1, a2, n2, c2, a3, n3, c3, -, -, -, q3, hp⟩ := h
  have HPw : Hid (Pl w a0 n0 c0 a1 n1 c1 a2 n2 c2 a3 n3 c3 P) := hp
  have RP := rd_pos P PZ.out
  obtain ⟨rr, hrr⟩ : ∃ r, rdV P.plan = r := ⟨_, rfl⟩
  rw [hrr] at RP
  have HR : Hid (rdV P.plan = rr) := hrr
  have r1 := RP.1
  have r2 := RP.2
  have tm : c.tmod rr = c % rr := Int.tmod_eq_emod_of_nonneg hc
  have m0 : 0 ≤ c % rr := Int.emod_nonneg _ (by omega)
  have m1 : c % rr < rr := Int.emod_lt_of_pos _ (by omega)
  obtain ⟨m, hm⟩ : ∃ m, c % rr = m := ⟨_, rfl⟩
  rw [hm] at tm m0 m1
  have HM : Hid (c % rr = m) := hm
  have M01 : Hid (0 ≤ m ∧ m < rr) := ⟨m0, m1⟩
  have R4 : Hid (rr ≤ 400) := r2
  have HL3 : Hid (n3 = P.plan.length) := HPw.out.plan.len
  have L8 : Hid (1 ≤ n3 ∧ n3 ≤ 8) := by show _ ∧ _; rw [HPw.out.plan.len]; exact ⟨pf_plan1 P PZ.out, (pf_plan P PZ.out).1⟩
  have hmax3 : (n3 : Int) ≤ 9223372036854775807 := by have := L8.out; omega
  have ST8 : Hid (∀ j, j < P.plan.length → 1 ≤ (P.plan.getD j (0, 0)).2 ∧ (P.plan.getD j (0, 0)).2 ≤ 50) := (pf_plan P PZ.out).2
  clear hz hu hp hrr hm RP
  go_enter Tryz.func43, Tryz.ntmps43
  go_wp2_with fail
  go_loop [6, 7] (fun u v => ∃ j : Nat, j ≤ n3 ∧ v = .int .i64 j ∧ u = .int .i64 (rdV (P.plan.take j))) (fun _ v => n3 - (intOf v).toNat)
  case atStart => exact ⟨0, Nat.zero_le _, rfl, by simp [rdV]⟩
  case round =>
    obtain ⟨j, hj, rfl, rfl⟩ := hrel
    by_cases hlt : j < n3
    · obtain ⟨x, rfl, k0, k1⟩ := HPw.out.plan.at j hlt
      have hJ : (j : Int) < (n3 : Int) := by omega
      have J8 : (j : Int) ≤ 8 := by have := L8.out; omega
      have HLT : Hid (j < n3) := hlt
      have TK : Hid (_ = _) := rdV_take P.plan j (by have := HL3.out; omega)
      have bd := rd_bound P PZ.out j (by have := HL3.out; omega)
      have st := ST8.out j (by have := HL3.out; omega)
      have bd0 := bd.1
      have bd1 : rdV (P.plan.take j) ≤ 400 := by have := L8.out; omega
      have st0 := st.1
      have st1 := st.2
      obtain ⟨⟨g, t⟩, hL⟩ : ∃ L, P.plan.getD j (0, 0) = L := ⟨_, rfl⟩
      rw [hL] at k0 k1 TK st0 st1
      simp only at k0 k1 TK st0 st1
      clear hL hlt bd st
      generalize hsum : rdV (P.plan.take j) = sm at *
      clear hsum
      go_wp2_with fail
      go_round
      case rel => exact ⟨j + 1, by have := HLT.out; omega, by go_num, by rw [TK.out]⟩
      case measure => have := HLT.out; simp [intOf]; omega
    · have hJ : ¬ (j : Int) < (n3 : Int) := by omega
      have HJ : Hid (j = n3) := by show _ = _; omega
      clear hlt
      have EV : Hid (rdV (P.plan.take j) = rr) := by show _ = _; rw [List.take_of_length_le (by have := HL3.out; have := HJ.out; omega)]; exact HR.out
      rw [EV.out]
      go_wp2_with fail
      go_loop [8, 9] (fun u v => ∃ j : Nat, j < n3 ∧ v = .int .i64 j ∧ u = .int .i64 (m - rdV (P.plan.take j)) ∧ rdV (P.plan.take j) ≤ m) (fun _ v => n3 - (intOf v).toNat)
      case atStart => exact ⟨0, L8.out.1, rfl, by simp [rdV], by simp [rdV]; exact M01.out.1⟩
      case round =>
        rename_i jj _ _ _ _
        obtain ⟨j, hlt, rfl, rfl, hle⟩ := hrel
        obtain ⟨x, rfl, k0, k1⟩ := HPw.out.plan.at j hlt
        have HLT : Hid (j < n3) := hlt
        have hJ : (j : Int) < (n3 : Int) := by omega
        have J8 : (j : Int) ≤ 8 := by have := L8.out; omega
        have TK : Hid (_ = _) := rdV_take P.plan j (by have := HL3.out; omega)
        have st := ST8.out j (by have := HL3.out; omega)
        have bd := rd_bound P PZ.out j (by have := HL3.out; omega)
        have bd0 := bd.1
        have bd1 : rdV (P.plan.take j) ≤ 400 := by have := L8.out; omega
        have st0 := st.1
        have st1 := st.2
        have mm := M01.out
        have m40 : m ≤ 400 := by have := R4.out; omega
        obtain ⟨⟨g, t⟩, hL⟩ : ∃ L, P.plan.getD j (0, 0) = L := ⟨_, rfl⟩
        rw [hL] at k0 k1 TK st0 st1
        simp only at k0 k1 TK st0 st1
        clear hL bd st
        obtain ⟨sm, hsm⟩ : ∃ z, rdV (P.plan.take j) = z := ⟨_, rfl⟩
        rw [hsm] at TK bd0 bd1 hle ⊢
        have HSM : Hid (rdV (P.plan.take j) = sm) := hsm
        clear hsm
        by_cases he : t ≤ m - sm
        · have TK2 : Hid (rdV (P.plan.take (j + 1)) = sm + t) := TK.out
          have JN : Hid (j + 1 < n3) := by
            show _ < _
            rcases Nat.lt_or_ge (j + 1) n3 with h | h
            · exact h
            · exfalso
              have e : P.plan.take (j + 1) = P.plan := List.take_of_length_le (by have := HL3.out; omega)
              have := TK2.out
              rw [e, HR.out] at this
              omega
          go_wp2_with fail
          go_round
          case rel => exact ⟨j + 1, JN.out, by go_num, by rw [TK2.out]; go_num, by rw [TK2.out]; omega⟩
          case measure => have := HLT.out; simp [intOf]; omega
        · have EV := tS_at P PZ.out c j (by have := HL3.out; omega) (by rw [HSM.out, HR.out, HM.out]; exact hle) (by rw [TK.out, HR.out, HM.out]; omega)
          rw [TK.out, HR.out, HM.out, HU.out] at EV
          subst EV
          have e1 : t - (m - sm) = sm + t - m := by omega
          go_wp2_with fail
          go_quiet (fail)
          go_wp2_with fail
          exact bodyPost_ret (v := .tuple #[.int .i64 (j : Int), .int .i64 (sm + t - m)]) (by simp [results, Tryz.results43, go_sem]) rfl ⟨rfl, dr (Below.refl _ _) _⟩
set_option maxRecDepth 20000 in
set_option maxHeartbeats 8000000 in
theorem s_fault12 (q : Nat) (a0 a1 a2 a3 : Option Addr) (n0 c0 n1 c1 n2 c2 n3 c3 : Nat) (m h : Value) (X : Hst) (b : Nat) (w : World) (d : Oj w b a0 n0 c0 a1 n1 c1 a2 n2 c2 a3 n3 c3 m h X) (hv : Vb w q #[.slice a0 n0 c0, .slice a1 n1 c1, .slice a2 n2 c2, .slice a3 n3 c3, m, h, .int .i64 X.slot, .int .i64 X.left, .int .i64 X.clock] 40) :
    Calls Tryz.prog 19 #[.pointer (some ⟨q, 0, none⟩)] w fun e w' => e = .returned (.int .i64 (hoV X)) ∧ Below w.heap.size w w' := by
  obtain ⟨am, cm, rfl, _⟩ := d.mem.shape
  obtain ⟨ah, ch, rfl, _, lh2, gh⟩ := d.harts.shape
  obtain ⟨V, hV⟩ : ∃ V, hoV X = V := ⟨_, rfl⟩
  rw [hV]
  have HV : Hid (hoV X = V) := hV
  clear hV
  obtain ⟨lm, hlm⟩ : ∃ n, X.mem.length = n := ⟨_, rfl⟩
  obtain ⟨lh, hlh⟩ : ∃ n, X.harts.length = n := ⟨_, rfl⟩
  rw [hlm, hlh] at d hv
  rw [hlh] at gh
  have HLH : Hid (X.harts.length = lh) := hlh
  have GH : Hid (0 < lh → ∃ g, ah = some ⟨g, 0, none⟩) := gh
  have HL0 : Hid (n0 = X.pol.own.length) := d.pol.own.len
  have HM0 : (n0 : Int) ≤ 9223372036854775807 := by have := d.pol.own.cap; unfold maxLen at this; omega
  have HMH : (lh : Int) ≤ 9223372036854775807 := by obtain ⟨_, _, _, t1, t2, _⟩ := d.harts.shape; rw [hlh] at t1; unfold maxLen at t2; omega
  clear hlm hlh gh lh2
  have Q : Hid (Vb w q #[.slice a0 n0 c0, .slice a1 n1 c1, .slice a2 n2 c2, .slice a3 n3 c3, .slice am lm cm, .slice ah lh ch, .int .i64 X.slot, .int .i64 X.left, .int .i64 X.clock] 40) := hv
  have D : Hid (Oj w b a0 n0 c0 a1 n1 c1 a2 n2 c2 a3 n3 c3 (.slice am lm cm) (.slice ah lh ch) X) := d
  have HA : Hid (PolAt w q X.pol) := ⟨_, _, _, _, _, _, _, _, _, _, _, _, hv.cell 0 rfl, hv.cell 1 rfl, hv.cell 2 rfl, hv.cell 3 rfl, d.pol⟩
  clear d hv
  go_enter Tryz.func19, Tryz.ntmps19
  go_wp2_with fail
  refine (l6_fault _ X.pol _ HA.out).mono ?_
  rintro e w1 ⟨rfl, b1⟩
  have B1 : Hid (Below w.heap.size w w1) := b1
  have Q1 : Hid (Vb w1 q #[.slice a0 n0 c0, .slice a1 n1 c1, .slice a2 n2 c2, .slice a3 n3 c3, .slice am lm cm, .slice ah lh ch, .int .i64 X.slot, .int .i64 X.left, .int .i64 X.clock] 40) := Q.out.keep b1
  clear b1
  by_cases hz : pfV X.pol = 0
  case neg =>
    have E : Hid (pfV X.pol = V) := by show _ = _; rw [← HV.out, hoV, if_neg hz]
    rw [E.out] at hz ⊢
    go_wp2_with fail
    go_ret
    exact ⟨rfl, B1.out⟩
  have PZ : Hid (pfV X.pol = 0) := hz
  rw [hz]
  clear hz
  go_wp2_with fail
  refine wp_region_held (S := fun w' => Below w1.heap.size w1 w') (by kernel_rfl) ?_
  change wpAnyH _ _ _ _ _ _ _ _ (World.drew _)
  have SD : Hid (Below w1.heap.size w1 w1.drew) := (Below.refl _ _).drew
  generalize w1.drew = x0 at *
  refine wpTk (i := 0) (v := .pointer (some ⟨q, 0, none⟩)) rfl (Or.inl ⟨by rfl, fun w' hs => by go_simp⟩) SD.out ?_
  change wpAnyH _ _ _ _ _ _ _ (Act.put _ (some 15) _) _
  simp only [Act.put, zT, zZ, zS]
  refine wpTk (i := 1) (v := .pointer (some ⟨q, 0, none⟩)) rfl (Or.inl ⟨by rfl, fun w' hs => by go_simp⟩) SD.out ?_
  change wpAnyH _ _ _ _ _ _ _ (Act.put _ (some 16) _) _
  simp only [Act.put, zT, zZ, zS]
  refine wpTk (i := 2) (v := .pointer (some ⟨q, 4, none⟩)) rfl (Or.inl ⟨by rfl, fun w' hs => by go_simp⟩) SD.out ?_
  change wpAnyH _ _ _ _ _ _ _ (Act.put _ (some 17) _) _
  simp only [Act.put, zT, zZ, zS]
  refine wpTk (i := 3) (v := .slice am lm cm) rfl (Or.inl ⟨by rfl, fun w' hs => by have hq := Q1.out.keep hs; have y4 := hq.cell 4 rfl; go_simp⟩) SD.out ?_
  change wpAnyH _ _ _ _ _ _ _ (Act.put _ (some 18) _) _
  simp only [Act.put, zT, zZ, zS]
  refine zR 4 rfl fun K hK => ?_
  rw [if_pos (by rfl)]
  go_simp
  refine (l7_whole _ X.mem b _ ((D.out.mem.keep B1.out).keep SD.out)).mono ?_
  rintro e x1 ⟨rfl, hx1⟩
  rw [hx1]
  clear hx1 x1
  refine hK.out _ _ SD.out (fun _ => ?_)
  clear hK K
  cases hw : wholeB X.mem
  case false =>
    have E : Hid (1 = V) := by show _ = _; rw [← HV.out, hoV, if_pos PZ.out, if_neg (by rw [hw]; simp)]
    refine wpTk (i := 5) (v := .bool true) rfl (Or.inl ⟨by rfl, fun w' hs => by go_simp⟩) SD.out ?_
    change wpAnyH _ _ _ _ _ _ _ (Act.put _ (some 20) _) _
    simp only [Act.put, zT, zZ, zS]
    refine wpTk (i := 6) (v := .bool true) rfl (Or.inl ⟨by rfl, fun w' hs => by go_simp⟩) SD.out ?_
    change wpAnyH _ _ _ _ _ _ _ (Act.put _ (some 21) _) _
    simp only [Act.put, zT, zZ, zS]
    refine wpTk (i := 7) (v := undef) rfl (Or.inr ⟨by rfl, rfl⟩) SD.out ?_
    change wpAnyH _ _ _ _ _ _ _ (Act.put _ (some 22) _) _
    simp only [Act.put, zT, zZ, zS]
    refine wpTk (i := 8) (v := undef) rfl (Or.inr ⟨by rfl, rfl⟩) SD.out ?_
    change wpAnyH _ _ _ _ _ _ _ (Act.put _ (some 23) _) _
    simp only [Act.put, zT, zZ, zS]
    refine wpTk (i := 9) (v := undef) rfl (Or.inr ⟨by rfl, rfl⟩) SD.out ?_
    change wpAnyH _ _ _ _ _ _ _ (Act.put _ (some 24) _) _
    simp only [Act.put, zT, zZ, zS]
    refine wpTk (i := 10) (v := undef) rfl (Or.inr ⟨by rfl, rfl⟩) SD.out ?_
    change wpAnyH _ _ _ _ _ _ _ (Act.put _ (some 25) _) _
    simp only [Act.put, zT, zZ, zS]
    refine wpTk (i := 11) (v := undef) rfl (Or.inr ⟨by rfl, rfl⟩) SD.out ?_
    change wpAnyH _ _ _ _ _ _ _ (Act.put _ (some 26) _) _
    simp only [Act.put, zT, zZ, zS]
    refine wpTk (i := 12) (v := undef) rfl (Or.inr ⟨by rfl, rfl⟩) SD.out ?_
    change wpAnyH _ _ _ _ _ _ _ (Act.put _ (some 27) _) _
    simp only [Act.put, zT, zZ, zS]
    refine wpTk (i := 13) (v := undef) rfl (Or.inr ⟨by rfl, rfl⟩) SD.out ?_
    change wpAnyH _ _ _ _ _ _ _ (Act.put _ (some 28) _) _
    simp only [Act.put, zT, zZ, zS]
    refine wpTk (i := 14) (v := undef) rfl (Or.inr ⟨by rfl, rfl⟩) SD.out ?_
    change wpAnyH _ _ _ _ _ _ _ (Act.put _ (some 29) _) _
    simp only [Act.put, zT, zZ, zS]
    refine wpTk (i := 15) (v := undef) rfl (Or.inr ⟨by rfl, rfl⟩) SD.out ?_
    change wpAnyH _ _ _ _ _ _ _ (Act.put _ (some 30) _) _
    simp only [Act.put, zT, zZ, zS]
    refine wpTk (i := 16) (v := undef) rfl (Or.inr ⟨by rfl, rfl⟩) SD.out ?_
    change wpAnyH _ _ _ _ _ _ _ (Act.put _ (some 31) _) _
    simp only [Act.put, zT, zZ, zS]
    refine wpTk (i := 17) (v := undef) rfl (Or.inr ⟨by rfl, rfl⟩) SD.out ?_
    change wpAnyH _ _ _ _ _ _ _ (Act.put _ (some 32) _) _
    simp only [Act.put, zT, zZ, zS]
    refine wpTk (i := 18) (v := undef) rfl (Or.inr ⟨by rfl, rfl⟩) SD.out ?_
    change wpAnyH _ _ _ _ _ _ _ (Act.put _ (some 33) _) _
    simp only [Act.put, zT, zZ, zS]
    refine wpTk (i := 19) (v := .bool true) rfl (Or.inl ⟨by rfl, fun w' hs => by go_simp⟩) SD.out ?_
    change wpAnyH _ _ _ _ _ _ _ (Act.put _ (some 34) _) _
    simp only [Act.put, zT, zZ, zS]
    refine wpAnyH_done (by kernel_rfl) ?_ _
    go_wp2_with fail
    go_ret
    exact ⟨ret_i E.out, on B1.out SD.out⟩
  refine wpTk (i := 5) (v := .bool false) rfl (Or.inl ⟨by rfl, fun w' hs => by go_simp⟩) SD.out ?_
  change wpAnyH _ _ _ _ _ _ _ (Act.put _ (some 20) _) _
  simp only [Act.put, zT, zZ, zS]
  refine wpTk (i := 6) (v := .bool false) rfl (Or.inl ⟨by rfl, fun w' hs => by go_simp⟩) SD.out ?_
  change wpAnyH _ _ _ _ _ _ _ (Act.put _ (some 21) _) _
  simp only [Act.put, zT, zZ, zS]
  refine wpTk (i := 7) (v := .pointer (some ⟨q, 0, none⟩)) rfl (Or.inl ⟨by rfl, fun w' hs => by go_simp⟩) SD.out ?_
  change wpAnyH _ _ _ _ _ _ _ (Act.put _ (some 22) _) _
  simp only [Act.put, zT, zZ, zS]
  refine wpTk (i := 8) (v := .pointer (some ⟨q, 0, none⟩)) rfl (Or.inl ⟨by rfl, fun w' hs => by go_simp⟩) SD.out ?_
  change wpAnyH _ _ _ _ _ _ _ (Act.put _ (some 23) _) _
  simp only [Act.put, zT, zZ, zS]
  refine wpTk (i := 9) (v := .pointer (some ⟨q, 5, none⟩)) rfl (Or.inl ⟨by rfl, fun w' hs => by go_simp⟩) SD.out ?_
  change wpAnyH _ _ _ _ _ _ _ (Act.put _ (some 24) _) _
  simp only [Act.put, zT, zZ, zS]
  refine wpTk (i := 10) (v := .slice ah lh ch) rfl (Or.inl ⟨by rfl, fun w' hs => by have hq := Q1.out.keep hs; have y5 := hq.cell 5 rfl; go_simp⟩) SD.out ?_
  change wpAnyH _ _ _ _ _ _ _ (Act.put _ (some 25) _) _
  simp only [Act.put, zT, zZ, zS]
  refine wpTk (i := 11) (v := .int .i64 (lh : Int)) rfl (Or.inl ⟨by rfl, fun w' hs => by go_simp⟩) SD.out ?_
  change wpAnyH _ _ _ _ _ _ _ (Act.put _ (some 26) _) _
  simp only [Act.put, zT, zZ, zS]
  refine wpTk (i := 12) (v := .pointer (some ⟨q, 0, none⟩)) rfl (Or.inl ⟨by rfl, fun w' hs => by go_simp⟩) SD.out ?_
  change wpAnyH _ _ _ _ _ _ _ (Act.put _ (some 27) _) _
  simp only [Act.put, zT, zZ, zS]
  refine wpTk (i := 13) (v := .pointer (some ⟨q, 0, none⟩)) rfl (Or.inl ⟨by rfl, fun w' hs => by go_simp⟩) SD.out ?_
  change wpAnyH _ _ _ _ _ _ _ (Act.put _ (some 28) _) _
  simp only [Act.put, zT, zZ, zS]
  refine wpTk (i := 14) (v := .pointer (some ⟨q, 0, none⟩)) rfl (Or.inl ⟨by rfl, fun w' hs => by go_simp⟩) SD.out ?_
  change wpAnyH _ _ _ _ _ _ _ (Act.put _ (some 29) _) _
  simp only [Act.put, zT, zZ, zS]
  refine wpTk (i := 15) (v := .pointer (some ⟨q, 0, none⟩)) rfl (Or.inl ⟨by rfl, fun w' hs => by go_simp⟩) SD.out ?_
  change wpAnyH _ _ _ _ _ _ _ (Act.put _ (some 30) _) _
  simp only [Act.put, zT, zZ, zS]
  refine wpTk (i := 16) (v := .slice a0 n0 c0) rfl (Or.inl ⟨by rfl, fun w' hs => by have hq := Q1.out.keep hs; have y0 := hq.cell 0 rfl; go_simp⟩) SD.out ?_
  change wpAnyH _ _ _ _ _ _ _ (Act.put _ (some 31) _) _
  simp only [Act.put, zT, zZ, zS]
  refine wpTk (i := 17) (v := .int .i64 (n0 : Int)) rfl (Or.inl ⟨by rfl, fun w' hs => by go_simp⟩) SD.out ?_
  change wpAnyH _ _ _ _ _ _ _ (Act.put _ (some 32) _) _
  simp only [Act.put, zT, zZ, zS]
  by_cases hn : lh = n0
  case neg =>
    have E : Hid (1 = V) := by show _ = _; rw [← HV.out, hoV, if_pos PZ.out, if_neg (by rw [HLH.out, ← HL0.out]; exact fun k => hn k.2)]
    have hi : ¬ (lh : Int) = (n0 : Int) := by omega
    refine wpTk (i := 18) (v := .bool true) rfl (Or.inl ⟨by rfl, fun w' hs => by go_simp⟩) SD.out ?_
    change wpAnyH _ _ _ _ _ _ _ (Act.put _ (some 33) _) _
    simp only [Act.put, zT, zZ, zS]
    refine wpTk (i := 19) (v := .bool true) rfl (Or.inl ⟨by rfl, fun w' hs => by go_simp⟩) SD.out ?_
    change wpAnyH _ _ _ _ _ _ _ (Act.put _ (some 34) _) _
    simp only [Act.put, zT, zZ, zS]
    refine wpAnyH_done (by kernel_rfl) ?_ _
    go_wp2_with fail
    go_ret
    exact ⟨ret_i E.out, on B1.out SD.out⟩
  have ME : Hid (wholeB X.mem = true ∧ X.harts.length = X.pol.own.length) := ⟨hw, by rw [HLH.out, ← HL0.out]; exact hn⟩
  have hi : (lh : Int) = (n0 : Int) := by omega
  clear hn hw
  refine wpTk (i := 18) (v := .bool false) rfl (Or.inl ⟨by rfl, fun w' hs => by go_simp⟩) SD.out ?_
  change wpAnyH _ _ _ _ _ _ _ (Act.put _ (some 33) _) _
  simp only [Act.put, zT, zZ, zS]
  refine wpTk (i := 19) (v := .bool false) rfl (Or.inl ⟨by rfl, fun w' hs => by go_simp⟩) SD.out ?_
  change wpAnyH _ _ _ _ _ _ _ (Act.put _ (some 34) _) _
  simp only [Act.put, zT, zZ, zS]
  refine wpAnyH_done (by kernel_rfl) ?_ _
  clear hi HM0
  have B2 : Hid (Below w.heap.size w x0) := on B1.out SD.out
  have Q2 : Hid (Vb x0 q #[.slice a0 n0 c0, .slice a1 n1 c1, .slice a2 n2 c2, .slice a3 n3 c3, .slice am lm cm, .slice ah lh ch, .int .i64 X.slot, .int .i64 X.left, .int .i64 X.clock] 40) := Q.out.keep B2.out
  have q5 := Q2.out.cell 5 rfl
  clear SD Q1 B1
  go_wp2_with fail
  go_loop [4] (fun c => ∃ j : Nat, j ≤ lh ∧ c = .int .i64 j ∧ hartsV (X.harts.drop j) = hartsV X.harts) (fun c => lh - (intOf c).toNat)
  case atStart => exact ⟨0, Nat.zero_le _, rfl, rfl⟩
  case round =>
    obtain ⟨j, hj, rfl, hT⟩ := hrel
    have HT : Hid (hartsV (X.harts.drop j) = hartsV X.harts) := hT
    clear hT
    by_cases hlt : j < lh
    · obtain ⟨x1, e1⟩ := GH.out (by omega)
      subst e1
      obtain ⟨r, c, i, o, z1, z2, _⟩ := (D.out.harts.keep B2.out).at j (by rw [HLH.out]; exact hlt)
      have ST := harts_step X.harts j (by rw [HLH.out]; exact hlt)
      obtain ⟨H, hH⟩ : ∃ H, X.harts.getD j voidH = H := ⟨_, rfl⟩
      rw [hH] at z1 z2 ST
      have HST : Hid (_ = _) := ST
      have Z1 : Hid (Hc x0 ⟨x1, j * 9, none⟩ r c i o H) := z1
      have Z2 : Hid (Hm x0 b r c i o H) := z2
      have hI : (j : Int) < (lh : Int) := by omega
      have HL : Hid (j < lh) := hlt
      clear z1 z2 hH hlt ST
      go_wp2_with fail
      refine (s_faultO _ _ _ _ _ _ H b _ Z2.out Z1.out.c0 Z1.out.c1 Z1.out.c2 Z1.out.c6 Z1.out.c7 Z1.out.c8).mono ?_
      rintro e w2 ⟨rfl, hw2⟩
      rw [hw2]
      clear hw2 w2
      by_cases hf : hfV H = 0
      · have HT2 : Hid (hartsV (X.harts.drop (j + 1)) = hartsV X.harts) := by
          have t := HST.out
          rw [if_pos hf, HT.out] at t
          exact t.symm
        rw [hf]
        clear hf
        go_wp2_with fail
        go_round
        case rel => exact ⟨j + 1, by have := HL.out; omega, by go_num, HT2.out⟩
        case measure => have := HL.out; simp [intOf]; omega
      · have HT2 : Hid (hfV H = V) := by
          have t := HST.out
          rw [if_neg hf, HT.out] at t
          show _ = _
          rw [← HV.out, hoV, if_pos PZ.out, if_pos ME.out, if_neg (by rw [t]; exact hf), t]
        rw [HT2.out] at hf ⊢
        go_wp2_with fail
        go_ret
        exact ⟨rfl, B2.out⟩
    · have hJ : ¬ (j : Int) < (lh : Int) := by omega
      have HZ : Hid (hartsV X.harts = 0) := by
        show _ = _
        rw [← HT.out, List.drop_of_length_le (by rw [HLH.out]; omega)]
        rfl
      have q8 := Q2.out.cell 8 rfl
      clear hlt
      cases hk : ckOk X.clock
      case false =>
        have HK : Hid ((decide (0 ≤ X.clock) && decide (X.clock ≤ 1000000)) = false) := hk
        have E : Hid (3 = V) := by show _ = _; rw [← HV.out, hoV, if_pos PZ.out, if_pos ME.out, if_pos HZ.out, if_neg (by rw [hk]; simp)]
        clear hk
        go_wp2_with (go_at_call 42; refine (l1_in _ _ _ _).mono ?_; rintro e w2 ⟨rfl, hw2⟩; rw [hw2]; clear hw2 w2; rw [HK.out])
        go_ret
        exact ⟨ret_i E.out, B2.out⟩
      have HK : Hid ((decide (0 ≤ X.clock) && decide (X.clock ≤ 1000000)) = true) := hk
      have CK : Hid (0 ≤ X.clock ∧ X.clock ≤ 1000000) := by show _ ∧ _; unfold ckOk at hk; simpa using hk
      have E : Hid ((if (tS X.pol X.clock).1 = X.slot ∧ (tS X.pol X.clock).2 = X.left then (0 : Int) else 1) = V) := by show _ = _; rw [← HV.out, hoV, if_pos PZ.out, if_pos ME.out, if_pos HZ.out, if_pos hk]
      clear hk
      go_wp2_with (go_at_call 42; refine (l1_in _ _ _ _).mono ?_; rintro e w2 ⟨rfl, hw2⟩; rw [hw2]; clear hw2 w2; rw [HK.out])
      clear q8 q5
      refine wp_region_held (S := fun w' => Below x0.heap.size x0 w') (by kernel_rfl) ?_
      change wpAnyH _ _ _ _ _ _ _ _ (World.drew _)
      have SD : Hid (Below x0.heap.size x0 x0.drew) := (Below.refl _ _).drew
      generalize x0.drew = x2 at *
      refine wpTk (i := 0) (v := .pointer (some ⟨q, 0, none⟩)) rfl (Or.inl ⟨by rfl, fun w' hs => by go_simp⟩) SD.out ?_
      change wpAnyH _ _ _ _ _ _ _ (Act.put _ (some 61) _) _
      simp only [Act.put, zT, zZ, zS]
      refine wpTk (i := 1) (v := .pointer (some ⟨q, 0, none⟩)) rfl (Or.inl ⟨by rfl, fun w' hs => by go_simp⟩) SD.out ?_
      change wpAnyH _ _ _ _ _ _ _ (Act.put _ (some 62) _) _
      simp only [Act.put, zT, zZ, zS]
      refine wpTk (i := 2) (v := .pointer (some ⟨q, 0, none⟩)) rfl (Or.inl ⟨by rfl, fun w' hs => by go_simp⟩) SD.out ?_
      change wpAnyH _ _ _ _ _ _ _ (Act.put _ (some 63) _) _
      simp only [Act.put, zT, zZ, zS]
      refine wpTk (i := 3) (v := .pointer (some ⟨q, 0, none⟩)) rfl (Or.inl ⟨by rfl, fun w' hs => by go_simp⟩) SD.out ?_
      change wpAnyH _ _ _ _ _ _ _ (Act.put _ (some 64) _) _
      simp only [Act.put, zT, zZ, zS]
      refine wpTk (i := 4) (v := .pointer (some ⟨q, 0, none⟩)) rfl (Or.inl ⟨by rfl, fun w' hs => by go_simp⟩) SD.out ?_
      change wpAnyH _ _ _ _ _ _ _ (Act.put _ (some 65) _) _
      simp only [Act.put, zT, zZ, zS]
      refine wpTk (i := 5) (v := .pointer (some ⟨q, 8, none⟩)) rfl (Or.inl ⟨by rfl, fun w' hs => by go_simp⟩) SD.out ?_
      change wpAnyH _ _ _ _ _ _ _ (Act.put _ (some 66) _) _
      simp only [Act.put, zT, zZ, zS]
      refine wpTk (i := 6) (v := .int .i64 X.clock) rfl (Or.inl ⟨by rfl, fun w' hs => by have hq := Q2.out.keep hs; have y8 := hq.cell 8 rfl; go_simp⟩) SD.out ?_
      change wpAnyH _ _ _ _ _ _ _ (Act.put _ (some 67) _) _
      simp only [Act.put, zT, zZ, zS]
      refine zR 7 rfl fun K hK => ?_
      rw [if_pos (by rfl)]
      go_simp
      refine (s_turn _ X.clock X.pol _ ((HA.out.stay B2.out).stay SD.out) PZ.out CK.out.1 CK.out.2).mono ?_
      rintro e w3 ⟨rfl, b3⟩
      have S3 : Hid (Below x0.heap.size x0 w3) := on SD.out b3
      clear b3
      refine hK.out _ _ S3.out (fun _ => ?_)
      clear hK K
      obtain ⟨t1, ht1⟩ : ∃ t, (tS X.pol X.clock).1 = t := ⟨_, rfl⟩
      obtain ⟨t2, ht2⟩ : ∃ t, (tS X.pol X.clock).2 = t := ⟨_, rfl⟩
      rw [ht1, ht2] at E ⊢
      clear ht1 ht2
      refine wpTk (i := 8) (v := .tuple #[.int .i64 t1, .int .i64 t2]) rfl (Or.inl ⟨by rfl, fun w' hs => by go_simp⟩) S3.out ?_
      change wpAnyH _ _ _ _ _ _ _ (Act.put _ (some 60) _) _
      simp only [Act.put, zT, zZ, zS]
      refine wpTk (i := 9) (v := .int .i64 t1) rfl (Or.inl ⟨by rfl, fun w' hs => by go_simp⟩) S3.out ?_
      change wpAnyH _ _ _ _ _ _ _ (Act.put _ (some 69) _) _
      simp only [Act.put, zT, zZ, zS]
      refine wpTk (i := 10) (v := .int .i64 t2) rfl (Or.inl ⟨by rfl, fun w' hs => by go_simp⟩) S3.out ?_
      change wpAnyH _ _ _ _ _ _ _ (Act.put _ (some 70) _) _
      simp only [Act.put, zT, zZ, zS]
      refine wpTk (i := 11) (v := .int .i64 t1) rfl (Or.inl ⟨by rfl, fun w' hs => by go_simp⟩) S3.out ?_
      change wpAnyH _ _ _ _ _ _ _ (Act.put _ (some 6) _) _
      simp only [Act.put, zT, zZ, zS]
      refine wpTk (i := 12) (v := .int .i64 t2) rfl (Or.inl ⟨by rfl, fun w' hs => by go_simp⟩) S3.out ?_
      change wpAnyH _ _ _ _ _ _ _ (Act.put _ (some 7) _) _
      simp only [Act.put, zT, zZ, zS]
      refine wpAnyH_done (by kernel_rfl) ?_ _
      have B3 : Hid (Below w.heap.size w w3) := on B2.out S3.out
      have Q3 : Hid (Vb w3 q #[.slice a0 n0 c0, .slice a1 n1 c1, .slice a2 n2 c2, .slice a3 n3 c3, .slice am lm cm, .slice ah lh ch, .int .i64 X.slot, .int .i64 X.left, .int .i64 X.clock] 40) := Q.out.keep B3.out
      have q6 := Q3.out.cell 6 rfl
      have q7 := Q3.out.cell 7 rfl
      by_cases h1 : t1 = X.slot
      · by_cases h2 : t2 = X.left
        · have E0 : Hid (0 = V) := by
            have t := E.out
            rw [if_pos ⟨h1, h2⟩] at t
            exact t
          subst h1 h2
          go_wp2_with fail
          go_ret
          exact ⟨ret_i E0.out, B3.out⟩
        · have E0 : Hid (1 = V) := by
            have t := E.out
            rw [if_neg (fun k => h2 k.2)] at t
            exact t
          have h3 : ¬ X.left = t2 := fun k => h2 k.symm
          subst h1
          go_wp2_with fail
          go_ret
          exact ⟨ret_i E0.out, B3.out⟩
      · have E0 : Hid (1 = V) := by
          have t := E.out
          rw [if_neg (fun k => h1 k.1)] at t
          exact t
        have h3 : ¬ X.slot = t1 := fun k => h1 k.symm
        go_wp2_with fail
        go_ret
        exact ⟨ret_i E0.out, B3.out⟩
theorem SwN.read {w : World} {b n c : Nat} {a : Option Addr} {jss : List (List Int)} (h : SwN w b a n c jss) : IsS2 w a n c jss := by
  rcases h with ⟨h1, h2, h3, h4⟩ | ⟨g, h1, h2, h3, h4, h5⟩
  · exact .inl ⟨h1, h2, h3, h4⟩
  · refine .inr ⟨⟨g, 0, none⟩, h1, h2, h3, h4, fun i hi => ?_⟩
    obtain ⟨x, l, k, k1, k2⟩ := h5 i hi
    refine ⟨x, l, k, by rw [Addr.add_lit, Nat.zero_add]; exact k1, ?_⟩
    have e := k2.vln
    have e' : l = (jss.getD i []).length := e
    have := k2.rv
    obtain ⟨a', c', e2, r⟩ := this
    cases e2
    exact r
def fhC (X : Hst) (g : Int) (ys : List Int) : Int := if hoV X = 0 then (if isG X.pol.own.length g = true then (feedR (X.harts.getD g.toNat voidH) ys).1 else 4) else hoV X
def fhX (X : Hst) (g : Int) (ys : List Int) : Hst := if fhC X g ys = 0 then { X with harts := X.harts.set g.toNat (feedR (X.harts.getD g.toNat voidH) ys).2 } else voidX
theorem fh_not (X : Hst) (g : Int) (ys : List Int) (h : fhC X g ys ≠ 0) : fhX X g ys = voidX := by rw [fhX, if_neg h]
theorem fh_host (X : Hst) (g : Int) (ys : List Int) (h : hoV X ≠ 0) : fhC X g ys = hoV X := by rw [fhC, if_neg h]
theorem fh_guest (X : Hst) (g : Int) (ys : List Int) (h : hoV X = 0) (hg : isG X.pol.own.length g = false) : fhC X g ys = 4 := by rw [fhC, if_pos h, if_neg (by rw [hg]; decide)]
theorem fh_fed (X : Hst) (g : Int) (ys : List Int) (h : hoV X = 0) (hg : isG X.pol.own.length g = true) : fhC X g ys = (feedR (X.harts.getD g.toNat voidH) ys).1 := by rw [fhC, if_pos h, if_pos hg]
theorem fh_yes (X : Hst) (g : Int) (ys : List Int) (h : fhC X g ys = 0) : fhX X g ys = { X with harts := X.harts.set g.toNat (feedR (X.harts.getD g.toNat voidH) ys).2 } := by rw [fhX, if_pos h]
def setL (xs : List Value) : Nat → List Value → List Value
  | _, [] => xs
  | o, v :: vs => setL (xs.set o v) (o + 1) vs
theorem setL_app (a : List Value) : ∀ (vs r : List Value) (o : Nat), setL (a ++ r) (a.length + o) vs = a ++ setL r o vs
  | [], r, o => rfl
  | v :: vs, r, o => by
    rw [setL, setL, List.set_append_right _ _ (by omega), Nat.add_sub_cancel_left, ← setL_app a vs (r.set o v) (o + 1)]
    rfl
theorem flat9_set : ∀ (qs : List (V4 × Ht)) (k : Nat) (q : V4) (H : Ht), k < qs.length → setL (flat9 qs) (k * 9) (cel9 q H) = flat9 (qs.set k (q, H))
  | [], k, q, H, h => by simp at h
  | x :: t, 0, q, H, h => rfl
  | x :: t, k + 1, q, H, h => by
    have h' : k < t.length := by simpa using h
    rw [List.set_cons_succ, flat9, flat9, ← flat9_set t k q H h', show (k + 1) * 9 = (cel9 x.1 x.2).length + k * 9 by show _ = 9 + k * 9; omega, setL_app]
theorem row_setL {base sz g n cap : Nat} {e : TypeId} : ∀ (vs : List Value) (w : World) (xs : List Value) (o : Nat), w.ownsRow base e sz (.slice (some ⟨g, 0, none⟩) n cap) n xs → (w.setCells g o vs).ownsRow base e sz (.slice (some ⟨g, 0, none⟩) n cap) n (setL xs o vs) ∧ w.grownBy (w.setCells g o vs) (some g)
  | [], w, xs, o, h => ⟨h, World.grownBy.refl _ _⟩
  | v :: vs, w, xs, o, h => by
    obtain ⟨h1, g1⟩ := World.ownsRow.stored h o v
    obtain ⟨h2, g2⟩ := row_setL vs _ _ (o + 1) h1
    exact ⟨h2, grown_trans g1 g2⟩
theorem map_snd_set : ∀ (qs : List (V4 × Ht)) (k : Nat) (q : V4) (H : Ht), (qs.set k (q, H)).map Prod.snd = (qs.map Prod.snd).set k H
  | [], k, q, H => rfl
  | x :: t, 0, q, H => rfl
  | x :: t, k + 1, q, H => by rw [List.set_cons_succ, List.map_cons, List.map_cons, List.set_cons_succ, map_snd_set t k q H]
theorem Oq.setH {w : World} {base g n cap k : Nat} {v0 v1 v2 v3 v4 : Value} {X : Hst} {r c i o : Value} {H : Ht} (h : Oq w base v0 v1 v2 v3 v4 (.slice (some ⟨g, 0, none⟩) n cap) X) (hk : k < X.harts.length) (m : Hm w base r c i o H) :
    Oq (w.setCells g (k * 9) (cel9 ⟨r, c, i, o⟩ H)) base v0 v1 v2 v3 v4 (.slice (some ⟨g, 0, none⟩) n cap) { X with harts := X.harts.set k H } ∧ w.grownBy (w.setCells g (k * 9) (cel9 ⟨r, c, i, o⟩ H)) (some g) ∧ base ≤ g := by
  obtain ⟨qs, h1, h2, h3⟩ := h.harts
  have hl : qs.length = X.harts.length := by rw [← h2, List.length_map]
  have hn : n = qs.length := by obtain ⟨_, ⟨e, _⟩ | ⟨_, _, _, e, _⟩⟩ := h1 <;> simp at e <;> omega
  rw [← hn] at h1
  have hb : base ≤ g := (World.ownsRow.lt h1 g rfl).1
  obtain ⟨k1, k2⟩ := row_setL (cel9 ⟨r, c, i, o⟩ H) w _ (k * 9) h1
  have KY : Ky (some 60) w (w.setCells g (k * 9) (cel9 ⟨r, c, i, o⟩ H)) := ky_grown h1 k2
  rw [flat9_set qs k ⟨r, c, i, o⟩ H (by omega)] at k1
  obtain ⟨xs, o1, o2, o3⟩ := h.own
  refine ⟨⟨⟨xs, o1, KY.row o2 (by decide), fun j x e => KY.row (o3 j x e) (by decide)⟩, KY.row h.lanes (by decide), KY.row h.bells (by decide), KY.row h.plan (by decide), KY.row h.mem (by decide), qs.set k (⟨r, c, i, o⟩, H), by rw [List.length_set, ← hn]; exact k1, by rw [map_snd_set, h2], fun q hq => ?_⟩, k2, hb⟩
  have mh : ∀ {q : V4 × Ht}, Hm w base q.1.r q.1.c q.1.i q.1.o q.2 → Hm (w.setCells g (k * 9) (cel9 ⟨r, c, i, o⟩ H)) base q.1.r q.1.c q.1.i q.1.o q.2 := fun m => ⟨KY.row m.r (by decide), KY.row m.c (by decide), KY.row m.i (by decide), KY.row m.o (by decide)⟩
  rcases List.mem_or_eq_of_mem_set hq with hq | rfl
  · exact mh (h3 q hq)
  · exact mh (q := (⟨r, c, i, o⟩, H)) m
theorem pw_put {A Q B N : List Value} (h : (A ++ (Q ++ B)).Pairwise Apt) (hn : N.Pairwise Apt) (h1 : ∀ a ∈ A, ∀ x ∈ N, Apt a x) (h2 : ∀ x ∈ N, ∀ b ∈ B, Apt x b) : (A ++ (N ++ B)).Pairwise Apt := by
  obtain ⟨ha, hqb, haqb⟩ := List.pairwise_append.1 h
  obtain ⟨_, hb, _⟩ := List.pairwise_append.1 hqb
  refine List.pairwise_append.2 ⟨ha, List.pairwise_append.2 ⟨hn, hb, h2⟩, fun a ha' x hx => ?_⟩
  rcases List.mem_append.1 hx with hx | hx
  · exact h1 a ha' x hx
  · exact haqb a ha' x (List.mem_append_right _ hx)
theorem flat_put (qs : List (V4 × Ht)) (k : Nat) (q : V4 × Ht) (hk : k < qs.length) : qs.flatMap (fun q => q.1.l) = (qs.take k).flatMap (fun q => q.1.l) ++ (qs[k].1.l ++ (qs.drop (k + 1)).flatMap (fun q => q.1.l)) ∧ (qs.set k q).flatMap (fun q => q.1.l) = (qs.take k).flatMap (fun q => q.1.l) ++ (q.1.l ++ (qs.drop (k + 1)).flatMap (fun q => q.1.l)) := by
  constructor
  · conv => lhs; rw [← List.take_append_drop k qs, List.drop_eq_getElem_cons hk]
    rw [List.flatMap_append, List.flatMap_cons]
  · rw [List.set_eq_take_append_cons_drop, if_pos hk, List.flatMap_append, List.flatMap_cons]
theorem Ow.setH {w : World} {base b2 g n cap k : Nat} {v0 v1 v2 v3 v4 : Value} {X : Hst} {xs : List Value} {qs : List (V4 × Ht)} {q : V4} {H : Ht} (h : Ow w base v0 v1 v2 v3 v4 (.slice (some ⟨g, 0, none⟩) n cap) X xs qs) (hk : k < X.harts.length) (m : Hm w b2 q.r q.c q.i q.o H) (ha : q.l.Pairwise Apt) (hlt : ∀ v ∈ q.l, ∀ j, v.ownBlock = some j → j < base) (hb : b2 ≤ base) :
    Ow (w.setCells g (k * 9) (cel9 q H)) b2 v0 v1 v2 v3 v4 (.slice (some ⟨g, 0, none⟩) n cap) { X with harts := X.harts.set k H } xs (qs.set k (q, H)) ∧ w.grownBy (w.setCells g (k * 9) (cel9 q H)) (some g) ∧ base ≤ g := by
  have hl : qs.length = X.harts.length := by rw [← h.qh, List.length_map]
  have h1 := h.harts
  have hn : n = qs.length := by obtain ⟨_, ⟨e, _⟩ | ⟨_, _, _, e, _⟩⟩ := h1 <;> simp at e <;> omega
  rw [← hn] at h1
  have hbg : base ≤ g := (World.ownsRow.lt h1 g rfl).1
  obtain ⟨k1, k2⟩ := row_setL (cel9 q H) w _ (k * 9) h1
  have KY : Ky (some 60) w (w.setCells g (k * 9) (cel9 q H)) := ky_grown h1 k2
  rw [flat9_set qs k q H (by omega)] at k1
  have mh : ∀ {bb : Nat} {q : V4 × Ht}, Hm w bb q.1.r q.1.c q.1.i q.1.o q.2 → Hm (w.setCells g (k * 9) (cel9 ‹V4› H)) bb q.1.r q.1.c q.1.i q.1.o q.2 := fun m => ⟨KY.row m.r (by decide), KY.row m.c (by decide), KY.row m.i (by decide), KY.row m.o (by decide)⟩
  refine ⟨⟨row_monoX (KY.row h.own (by decide)) hb, h.xl, fun i x e => row_monoX (KY.row (h.rows i x e) (by decide)) hb, row_monoX (KY.row h.lanes (by decide)) hb, row_monoX (KY.row h.bells (by decide)) hb, row_monoX (KY.row h.plan (by decide)) hb, row_monoX (KY.row h.mem (by decide)) hb, ?_, by rw [map_snd_set, h.qh], fun x hx => ?_, ?_⟩, k2, hbg⟩
  · rw [List.length_set, ← hn]; exact row_monoX k1 hb
  · rcases List.mem_or_eq_of_mem_set hx with hx | rfl
    · exact (mh (h.lists x hx)).mono hb
    · exact mh (q := (q, H)) m
  · obtain ⟨e1, e2⟩ := flat_put qs k (q, H) (by omega)
    have hp := h.apart
    have lo : ∀ v ∈ (xs ++ v4 :: qs.flatMap fun q => q.1.l), ∀ j, v.ownBlock = some j → base ≤ j := fun v hv j e => by
      obtain ⟨_, nv⟩ := h.num v hv; exact (nv.lt j e).1
    rw [e1] at hp lo
    rw [e2]
    have hp' : ((xs ++ v4 :: (qs.take k).flatMap fun q => q.1.l) ++ (qs[k].1.l ++ (qs.drop (k + 1)).flatMap fun q => q.1.l)).Pairwise Apt := by simpa using hp
    have r := pw_put (N := q.l) hp' ha (fun a ha' x hx => (apt_sep (m := base) (hlt x hx) (lo a (by
      rcases List.mem_append.1 ha' with h | h
      · exact List.mem_append_left _ h
      · rcases List.mem_cons.1 h with rfl | h
        · exact List.mem_append_right _ (by simp)
        · exact List.mem_append_right _ (List.mem_cons_of_mem _ (List.mem_append_left _ h))))).swap) (fun x hx b hb' => apt_sep (m := base) (hlt x hx) (lo b (List.mem_append_right _ (List.mem_cons_of_mem _ (List.mem_append_right _ (List.mem_append_right _ hb'))))))
    simpa using r
theorem hoz_small {X : Hst} (h : Hoz X) : Xsm X := by
  have pp := pf_parts X.pol h.pf
  refine ⟨by have := h.own; omega, fun i hi => by have := (pf_own X.pol h.pf i hi).2.1; omega, by have := pp.2.2.2.2.1; omega, by have := pp.2.2.2.2.2.1; omega, by have := (pf_plan X.pol h.pf).1; omega, by have := h.ml; omega, by have := h.hl; have := h.own; omega, fun H hH => ?_⟩
  obtain ⟨i, hi, e⟩ := List.mem_iff_getElem.1 hH
  have k := h.ok i hi
  rw [List.getD, List.getElem?_eq_getElem hi] at k
  have k : Hok H := by rw [← e]; exact k
  exact ⟨by have := k.r16; omega, by have := k.c11; omega, by have := k.i40; omega, by have := k.o40; omega⟩
theorem fh_ok {X : Hst} {g : Int} {ys : List Int} (h : fhC X g ys = 0) : hoV X = 0 ∧ isG X.pol.own.length g = true ∧ (feedR (X.harts.getD g.toNat voidH) ys).1 = 0 := by
  unfold fhC at h
  split at h
  · rename_i h0
    split at h
    · rename_i h1
      exact ⟨h0, h1, h⟩
    · cases h
  · rename_i h0
    exact absurd h h0
theorem void_xsm : Xsm voidX := ⟨by decide, fun i hi => by simp [voidX] at hi, by decide, by decide, by decide, by decide, by decide, fun H hH => by cases hH⟩
theorem fh_small (X : Hst) (g : Int) (ys : List Int) : Xsm (fhX X g ys) := by
  by_cases h : fhC X g ys = 0
  · obtain ⟨h0, _, _⟩ := fh_ok h
    rw [fh_yes X g ys h]
    have s := hoz_small (hoz_of h0)
    refine ⟨s.s0, s.r0, s.s1, s.s2, s.s3, s.s4, by show (X.harts.set _ _).length ≤ _; rw [List.length_set]; exact s.s5, fun H hH => ?_⟩
    rcases List.mem_or_eq_of_mem_set hH with hH | rfl
    · exact s.h5 H hH
    · have t := feedR_tot (X.harts.getD g.toNat voidH) ys
      unfold totH at t
      exact ⟨by omega, by omega, by omega, by omega⟩
  · rw [fh_not X g ys h]
    exact void_xsm
end Go.Proofs.YtggejbphdadckaaGreatDoor
