/- Texts of this seat, joined. -/
import Derived.Deep.RegionWith
import Derived.Deep.RegionHeld3
import Derived.Deep.Cut
import Derived.Deep.CutRange
import Derived.Test.YtggejbphdadckaaGreatDoorQ03
import Derived.Test.YtggejbphdadckaaGreatDoorQ05
import Derived.Test.YtggejbphdadckaaGreatDoorQ08
import Derived.Test.YtggejbphdadckaaGreatDoorQ16
import Derived.Test.YtggejbphdadckaaGreatDoorQ28
import Derived.Test.YtggejbphdadckaaGreatDoorQ29
import Derived.Test.YtggejbphdadckaaGreatDoorQ31
import Derived.Test.YtggejbphdadckaaGreatDoorQ41
namespace Go.Proofs.YtggejbphdadckaaGreatDoor
open Go.RowKit
set_option linter.unusedVariables false
theorem pf_parts (P : Plc) (h : pfV P = 0) : P.own.length ≤ 3 ∧ guestsV P.own = 0 ∧ lanesV P.own [] P.lanes = 0 ∧ bellsV P.own.length [] P.bells = 0 ∧ P.lanes.length ≤ 4 ∧ P.bells.length ≤ 4 ∧ 1 ≤ P.own.length := by
  have h1 := (or_zero h).1
  have h2 := (or_zero (or_zero h).2).1
  have h3 := (or_zero (or_zero h).2).2
  have h4 := (or_zero h1).1
  have h5 := (or_zero h2).1
  have h6 := (or_zero h2).2
  have h7 := (or_zero h3).1
  unfold g1V at h4
  split at h4
  · cases h4
  · rename_i k1
    unfold g3V at h5
    split at h5
    · cases h5
    · rename_i k2
      exact ⟨by omega, h4, h6, h7, by omega, by omega, by omega⟩
theorem isG_iff (n : Nat) (g : Int) : isG n g = true ↔ (0 ≤ g ∧ g < n) := by
  unfold isG
  simp
  omega
structure GrewI (w : World) (R O : Nat) (z : Value) (L : List Int) (w' : World) : Prop where
  prs : Nums w' (O + 1) z L
  r0 : w'.cell? ⟨R, 0, none⟩ = some (.int .i64 0)
  r1 : w'.cell? ⟨R, 1, none⟩ = some (.slice none 0 0)
  f0 : w'.frozen? ⟨R, 0, none⟩ = false
  f1 : w'.frozen? ⟨R, 1, none⟩ = false
  o0 : w'.cell? ⟨O, 0, none⟩ = some (.int .i64 0)
  o1 : w'.cell? ⟨O, 1, none⟩ = some z
  g1 : w'.frozen? ⟨O, 1, none⟩ = false
  lt : R < O
  below : Below w.heap.size w w'
theorem frozen_grownI {w w' : World} {row : Option Nat} {p : Addr} (g : w.grownBy w' row) (hp : p.block < w.heap.size) (hne : some p.block ≠ row) : w'.frozen? p = w.frozen? p :=
  World.frozen?_of_block (w := w) (g.block p.block hp hne)
theorem GrewI.keep {w w1 w2 : World} {R O : Nat} {z : Value} {L : List Int} (h : GrewI w R O z L w1) (b : Below w1.heap.size w1 w2) : GrewI w R O z L w2 := by
  have s1 : O < w1.heap.size := block_of_cell h.o0
  have s0 : R < w1.heap.size := block_of_cell h.r0
  exact ⟨h.prs.keep b, cell_keep b h.r0, cell_keep b h.r1, by rw [b.frozen (p := ⟨R, 0, none⟩) s0]; exact h.f0, by rw [b.frozen (p := ⟨R, 1, none⟩) s0]; exact h.f1,
    cell_keep b h.o0, cell_keep b h.o1, by rw [b.frozen (p := ⟨O, 1, none⟩) s1]; exact h.g1, h.lt, on h.below b⟩
theorem GrewI.grown {w w1 w2 : World} {R O : Nat} {z z' : Value} {L : List Int} {r : Int} (h : GrewI w R O z L w1) (hp : Nums w2 (O + 1) z' (L ++ [r])) (g : w1.grownBy w2 z.ownBlock) (hS : w.heap.size ≤ R) :
    GrewI w R O z' (L ++ [r]) (w2.setCell ⟨O, 1, none⟩ z') ∧ w2.cell? ⟨O, 1, none⟩ = some z ∧ w2.frozen? ⟨O, 1, none⟩ = false := by
  have s1 : O < w1.heap.size := block_of_cell h.o0
  have s0 : R < w1.heap.size := block_of_cell h.r0
  have hlt := h.lt
  have n0 : some R ≠ z.ownBlock := own_not h.prs _ (.inl (by omega))
  have n1 : some O ≠ z.ownBlock := own_not h.prs _ (.inl (by omega))
  have r0 := cell_grown g h.r0 n0
  have r1 := cell_grown g h.r1 n0
  have o0 := cell_grown g h.o0 n1
  have o1 := cell_grown g h.o1 n1
  have f0 : w2.frozen? ⟨R, 0, none⟩ = false := by rw [frozen_grownI (p := ⟨R, 0, none⟩) g s0 n0]; exact h.f0
  have f1 : w2.frozen? ⟨R, 1, none⟩ = false := by rw [frozen_grownI (p := ⟨R, 1, none⟩) g s0 n0]; exact h.f1
  have g1 : w2.frozen? ⟨O, 1, none⟩ = false := by rw [frozen_grownI (p := ⟨O, 1, none⟩) g s1 n1]; exact h.g1
  have b2 : Below w.heap.size w w2 := h.below.grown g h.below.size (fun k hk => by have := (h.prs.lt k hk).1; omega)
  have ne : ∀ i, (⟨O, 1, none⟩ : Addr) ≠ ⟨R, i, none⟩ := fun i e => by have := congrArg Addr.block e; simp at this; omega
  refine ⟨⟨hp.put _ _ (fun e => own_not hp O (.inl (by omega)) e.symm), by rw [World.cell?_setCell_other _ _ _ _ (ne 0)]; exact r0, by rw [World.cell?_setCell_other _ _ _ _ (ne 1)]; exact r1, by rw [World.frozen?_setCell]; exact f0, by rw [World.frozen?_setCell]; exact f1, by rw [World.cell?_setCell_other _ _ _ _ (by intro e; cases e)]; exact o0, by rw [World.cell?_setCell_same _ _ _ o1], by rw [World.frozen?_setCell]; exact g1, hlt, b2.setCell (by show w.heap.size ≤ O; omega) _⟩, o1, g1⟩
def RsI (w : World) (s : Nat) : Prop := w.cell? ⟨s + 1, 0, none⟩ = some (.int .i64 0) ∧ w.cell? ⟨s + 1, 1, none⟩ = some (.slice none 0 0) ∧ w.frozen? ⟨s + 1, 0, none⟩ = false ∧ w.frozen? ⟨s + 1, 1, none⟩ = false ∧ s + 1 < w.heap.size
theorem RsI.keep {w w' : World} {s : Nat} (h : RsI w s) (b : Below w.heap.size w w') : RsI w' s :=
  ⟨cell_keep b h.1, cell_keep b h.2.1, by rw [b.frozen (p := ⟨s + 1, 0, none⟩) h.2.2.2.2]; exact h.2.2.1, by rw [b.frozen (p := ⟨s + 1, 1, none⟩) h.2.2.2.2]; exact h.2.2.2.1, Nat.lt_of_lt_of_le h.2.2.2.2 b.size⟩
def tnV : List (Int × Int) → Int → Int × Int
  | [], _ => (0, 0)
  | s :: t, a => if s.2 ≤ a then ((tnV t (a - s.2)).1 + 1, (tnV t (a - s.2)).2) else (0, s.2 - a)
theorem rd_nonneg (zs : List (Int × Int)) (h : ∀ s ∈ zs, 1 ≤ s.2) : 0 ≤ rdV zs := by
  induction zs with
  | nil => simp [rdV]
  | cons s t ih =>
    rw [rdV]
    have h1 := h s (by simp)
    have h2 := ih fun x hx => h x (by simp [hx])
    omega
theorem tn_at (zs : List (Int × Int)) : ∀ (j : Nat) (a : Int), (∀ s ∈ zs, 1 ≤ s.2) → j < zs.length → rdV (zs.take j) ≤ a → a < rdV (zs.take (j + 1)) → tnV zs a = ((j : Int), rdV (zs.take (j + 1)) - a) := by
  induction zs with
  | nil => intro j a _ h; simp at h
  | cons s t ih =>
    intro j a hp hj h0 h1
    cases j with
    | zero =>
      simp [rdV] at h1
      rw [tnV, if_neg (by omega)]
      simp [rdV]
    | succ j =>
      simp only [List.take_succ_cons, rdV] at h0 h1 ⊢
      have n := rd_nonneg (t.take j) fun x hx => hp x (by simp [List.mem_of_mem_take hx])
      rw [tnV, if_pos (by omega), ih j (a - s.2) (fun x hx => hp x (by simp [hx])) (by simpa using hj) (by omega) (by omega)]
      exact Prod.ext (by simp) (by simp; omega)
def ckOk (c : Int) : Bool := decide (0 ≤ c) && decide (c ≤ 1000000)
theorem pf_plan1 (P : Plc) (h : pfV P = 0) : 1 ≤ P.plan.length := by
  have h6 : g6V P = 0 := (or_zero (or_zero (or_zero h).2).2).2
  unfold g6V at h6
  split at h6
  · cases h6
  · rename_i h1; omega
theorem pf_each (P : Plc) (h : pfV P = 0) : ∀ s ∈ P.plan, 1 ≤ s.2 ∧ s.2 ≤ 50 := by
  have h6 : g6V P = 0 := (or_zero (or_zero (or_zero h).2).2).2
  unfold g6V at h6
  split at h6
  · cases h6
  · exact slots_ok _ _ h6
theorem rd_pos (P : Plc) (h : pfV P = 0) : 1 ≤ rdV P.plan ∧ rdV P.plan ≤ 400 := by
  have h1 := pf_plan1 P h
  have h2 := (rd_bound P h P.plan.length (Nat.le_refl _)).2
  have h8 := (pf_plan P h).1
  rw [List.take_length] at h2
  refine ⟨?_, by omega⟩
  have e := pf_each P h
  cases hp : P.plan with
  | nil => rw [hp] at h1; simp at h1
  | cons s t =>
    rw [hp] at e
    rw [rdV]
    have h3 := e s (by simp)
    have h4 := rd_nonneg t fun x hx => (e x (by simp [hx])).1
    omega
def tS (P : Plc) (c : Int) : Int × Int := tnV P.plan (c % rdV P.plan)
theorem tS_at (P : Plc) (h : pfV P = 0) (c : Int) (j : Nat) (hj : j < P.plan.length) (h0 : rdV (P.plan.take j) ≤ c % rdV P.plan) (h1 : c % rdV P.plan < rdV (P.plan.take (j + 1))) : tS P c = ((j : Int), rdV (P.plan.take (j + 1)) - c % rdV P.plan) :=
  tn_at P.plan j _ (fun s hs => (pf_each P h s hs).1) hj h0 h1
def matchL (g k : Int) (l : Ln) : Option (Int × Int) := if l.fr = g ∧ l.af = k then some (l.pg, 3) else if l.dst = g ∧ l.tt = k then some (l.pg, 1) else none
def firstM (g k : Int) : List Ln → Int × Int
  | [] => (-1, 0)
  | l :: t => match matchL g k l with | some x => x | none => firstM g k t
def pageV (ow : List Int) (ls : List Ln) (g : Int) (k : Nat) : Int × Int := if k < ow.length then (ow.getD k 0, 7) else firstM g k ls
def pforL (ow : List Int) (ls : List Ln) (g : Int) (j : Nat) : List (Int × Int) := (List.range j).map (pageV ow ls g)
theorem pforL_len (ow : List Int) (ls : List Ln) (g : Int) (j : Nat) : (pforL ow ls g j).length = j := by simp [pforL]
theorem pforL_succ (ow : List Int) (ls : List Ln) (g : Int) (j : Nat) : pforL ow ls g (j + 1) = pforL ow ls g j ++ [((pageV ow ls g j).1, (pageV ow ls g j).2)] := by
  simp [pforL, List.range_succ]
theorem firstM_step (g k : Int) (ls : List Ln) (j : Nat) (h : j < ls.length) : firstM g k (ls.drop j) = match matchL g k (ls.getD j lz) with | some x => x | none => firstM g k (ls.drop (j + 1)) := by
  rw [drop_cons_getD ls lz j h, firstM]
theorem pf_own (P : Plc) (h : pfV P = 0) (j : Nat) (hj : j < P.own.length) : 1 ≤ (P.own.getD j []).length ∧ (P.own.getD j []).length ≤ 5 ∧ ∀ x ∈ P.own.getD j [], 0 ≤ x ∧ x ≤ 23 :=
  guests_all P.own (pf_parts P h).2.1 _ (getD_mem P.own [] j hj)
theorem i_clock (c : Int) (w : World) : Calls Tryz.prog 56 #[.int .i64 c] w fun e w' => e = .returned (.bool (ckOk c)) ∧ w' = w := by
  by_cases h : 0 ≤ c
  · by_cases k : c ≤ 1000000
    · have E : ckOk c = true := by simp [ckOk, h, k]
      rw [E]
      go_enter Tryz.func56, Tryz.ntmps56
      go_wp2_with fail
      go_ret
      exact ⟨rfl, rfl⟩
    · have E : ckOk c = false := by simp [ckOk, k]
      rw [E]
      go_enter Tryz.func56, Tryz.ntmps56
      go_wp2_with fail
      go_ret
      exact ⟨rfl, rfl⟩
  · have E : ckOk c = false := by simp [ckOk, h]
    rw [E]
    go_enter Tryz.func56, Tryz.ntmps56
    go_wp2_with fail
    go_ret
    exact ⟨rfl, rfl⟩
set_option maxRecDepth 20000 in
set_option maxHeartbeats 4000000 in
theorem i_turnAt (a0 a1 a2 a3 : Option Addr) (n0 c0 n1 c1 n2 c2 n3 c3 : Nat) (P : Plc) (c : Int) (w : World) (h : Pl w a0 n0 c0 a1 n1 c1 a2 n2 c2 a3 n3 c3 P) (hg : w.cell? ⟨0, 0, none⟩ = some (.iface 200 (.agg #[.pointer (some ⟨1, 136, none⟩)]))) (hz : pfV P = 0) (hc : 0 ≤ c) (hc1 : c ≤ 1000000) :
    Calls Tryz.prog 58 #[.agg #[.slice a0 n0 c0, .slice a1 n1 c1, .slice a2 n2 c2, .slice a3 n3 c3], .int .i64 c] w fun e w' => e = .returned (.agg #[.int .i64 (tS P c).1, .int .i64 (tS P c).2, .int .i64 c]) ∧ Below w.heap.size w w' := by
  have PZ : Hid (pfV P = 0) := hz
  have HC : Hid (0 ≤ c ∧ c ≤ 1000000) := ⟨hc, hc1⟩
  obtain ⟨u, hu⟩ : ∃ u, tS P c = u := ⟨_, rfl⟩
  rw [hu]
  have HU : Hid (tS P c = u) := hu
  clear hz hu
  generalize hW : (w.alloc (.cells #[.slice a0 n0 c0, .slice a1 n1 c1, .slice a2 n2 c2, .slice a3 n3 c3] 37)).alloc (.cells #[.int .i64 0, .int .i64 0, .int .i64 0] 98) = W
  have B0 : Hid (Below w.heap.size w W) := by show Below _ _ _; rw [← hW]; exact al (al (Below.refl _ _) _) _
  obtain ⟨s, hS⟩ : ∃ s, w.heap.size = s := ⟨_, rfl⟩
  have HSs : Hid (w.heap.size = s) := hS
  have Q : Hid (W.cell? ⟨s, 0, none⟩ = some (.slice a0 n0 c0) ∧ W.cell? ⟨s, 1, none⟩ = some (.slice a1 n1 c1) ∧ W.cell? ⟨s, 2, none⟩ = some (.slice a2 n2 c2) ∧ W.cell? ⟨s, 3, none⟩ = some (.slice a3 n3 c3)) := by
    show _ ∧ _
    rw [← hW, ← hS]
    exact ⟨cell_push _ (cell_new rfl), cell_push _ (cell_new rfl), cell_push _ (cell_new rfl), cell_push _ (cell_new rfl)⟩
  have R : Hid (Vb W (s + 1) #[.int .i64 0, .int .i64 0, .int .i64 0] 98) := by
    have z1 : s + 1 = (w.alloc (.cells #[.slice a0 n0 c0, .slice a1 n1 c1, .slice a2 n2 c2, .slice a3 n3 c3] 37)).heap.size := by rw [← hS]; simp
    show Vb _ _ _ _
    rw [← hW, z1]
    exact Vb.new _ _ _
  have HP : Hid (Pl W a0 n0 c0 a1 n1 c1 a2 n2 c2 a3 n3 c3 P) := h.stay B0.out
  have HA : Hid (PolAt W s P) := ⟨_, _, _, _, _, _, _, _, _, _, _, _, Q.out.1, Q.out.2.1, Q.out.2.2.1, Q.out.2.2.2, HP.out⟩
  have HG : Hid (W.cell? ⟨0, 0, none⟩ = some (.iface 200 (.agg #[.pointer (some ⟨1, 136, none⟩)]))) := cell_keep B0.out hg
  clear h hg
  have q0 := Q.out.1
  have q1 := Q.out.2.1
  have q2 := Q.out.2.2.1
  have q3 := Q.out.2.2.2
  have fv := field_value
  go_enter Tryz.func58, Tryz.ntmps58
  go_wp2_with fail
  clear hW hS
  refine (i_roundOf _ _ _ _ _ _ _ _ _ _ _ _ P _ HP.out HG.out).mono ?_
  rintro e w1 ⟨rfl, b1⟩
  have RV : rR P = (0, rdV P.plan) := by rw [rR, if_pos PZ.out]
  rw [RV]
  clear RV
  have RP := rd_pos P PZ.out
  obtain ⟨rr, hrr⟩ : ∃ r, rdV P.plan = r := ⟨_, rfl⟩
  rw [hrr] at RP
  have HR : Hid (rdV P.plan = rr) := hrr
  simp only
  rw [hrr]
  clear hrr
  have r1 := RP.1
  have r2 := RP.2
  have tm : c.tmod rr = c % rr := Int.tmod_eq_emod_of_nonneg hc
  have m0 : 0 ≤ c % rr := Int.emod_nonneg _ (by omega)
  have m1 : c % rr < rr := Int.emod_lt_of_pos _ (by omega)
  obtain ⟨m, hm⟩ : ∃ m, c % rr = m := ⟨_, rfl⟩
  rw [hm] at tm m0 m1
  have HM : Hid (c % rr = m) := hm
  have M01 : Hid (0 ≤ m ∧ m < rr) := ⟨m0, m1⟩
  have R4 : Hid (rr ≤ 400) := r2
  clear hm RP
  have HPw : Hid (Pl w1 a0 n0 c0 a1 n1 c1 a2 n2 c2 a3 n3 c3 P) := HP.out.stay b1
  have HL3 : Hid (n3 = P.plan.length) := HPw.out.plan.len
  have L8 : Hid (1 ≤ n3 ∧ n3 ≤ 8) := by show _ ∧ _; rw [HPw.out.plan.len]; exact ⟨pf_plan1 P PZ.out, (pf_plan P PZ.out).1⟩
  have ST8 : Hid (∀ j, j < P.plan.length → 1 ≤ (P.plan.getD j (0, 0)).2 ∧ (P.plan.getD j (0, 0)).2 ≤ 50) := (pf_plan P PZ.out).2
  have q3 := cell_keep b1 Q.out.2.2.2
  have R1 : Hid (Vb w1 (s + 1) #[.int .i64 0, .int .i64 0, .int .i64 0] 98) := R.out.keep b1
  have B1 : Hid (Below w.heap.size w w1) := on B0.out b1
  clear b1
  go_wp2_with fail
  go_loop [5, 6] (fun u v => ∃ j : Nat, j < n3 ∧ v = .int .i64 j ∧ u = .int .i64 (m - rdV (P.plan.take j)) ∧ rdV (P.plan.take j) ≤ m) (fun _ v => n3 - (intOf v).toNat)
  case atStart => exact ⟨0, L8.out.1, rfl, by simp [rdV], by simp [rdV]; exact M01.out.1⟩
  case round =>
    obtain ⟨j, hlt, rfl, rfl, hle⟩ := hrel
    obtain ⟨x, rfl, k0, k1⟩ := HPw.out.plan.at j hlt
    have HLT : Hid (j < n3) := hlt
    have hJ : (j : Int) < (n3 : Int) := by omega
    have J8 : (j : Int) ≤ 8 := by have := L8.out; omega
    have TK : Hid (_ = _) := rdV_take P.plan j (by have := HL3.out; omega)
    have st := ST8.out j (by have := HL3.out; omega)
    have bd := rd_bound P PZ.out j (by have := HL3.out; omega)
    have bd0 := bd.1
    have bd1 : rdV (P.plan.take j) ≤ 400 := by have := L8.out; omega
    have st0 := st.1
    have st1 := st.2
    have mm := M01.out
    have m40 : m ≤ 400 := by have := R4.out; omega
    obtain ⟨⟨g, t⟩, hL⟩ : ∃ L, P.plan.getD j (0, 0) = L := ⟨_, rfl⟩
    rw [hL] at k0 k1 TK st0 st1
    simp only at k0 k1 TK st0 st1
    clear hL bd st
    obtain ⟨sm, hsm⟩ : ∃ z, rdV (P.plan.take j) = z := ⟨_, rfl⟩
    rw [hsm] at TK bd0 bd1 hle ⊢
    have HSM : Hid (rdV (P.plan.take j) = sm) := hsm
    clear hsm
    by_cases he : t ≤ m - sm
    · have TK2 : Hid (rdV (P.plan.take (j + 1)) = sm + t) := TK.out
      have JN : Hid (j + 1 < n3) := by
        show _ < _
        rcases Nat.lt_or_ge (j + 1) n3 with h | h
        · exact h
        · exfalso
          have e : P.plan.take (j + 1) = P.plan := List.take_of_length_le (by have := HL3.out; omega)
          have := TK2.out
          rw [e, HR.out] at this
          omega
      go_wp2_with fail
      go_round
      case rel => exact ⟨j + 1, JN.out, by go_num, by rw [TK2.out]; go_num, by rw [TK2.out]; omega⟩
      case measure => have := HLT.out; simp [intOf]; omega
    · have EV := tS_at P PZ.out c j (by have := HL3.out; omega) (by rw [HSM.out, HR.out, HM.out]; exact hle) (by rw [TK.out, HR.out, HM.out]; omega)
      rw [TK.out, HR.out, HM.out, HU.out] at EV
      subst EV
      have r0 := R1.out.cell 0 rfl
      have r1 := R1.out.cell 1 rfl
      have r2 := R1.out.cell 2 rfl
      have f0 := R1.out.free 0
      have f1 := R1.out.free 1
      have f2 := R1.out.free 2
      have e1 : t - (m - sm) = sm + t - m := by omega
      go_wp2_with fail
      exact bodyPost_ret (v := .agg #[.int .i64 (j : Int), .int .i64 (sm + t - m), .int .i64 c]) (by simp [results, Tryz.results58, go_sem, r0, r1, r2]) rfl ⟨rfl, (((B1.out).setCell (by have := HSs.out; show w.heap.size ≤ s + 1; omega) _).setCell (by have := HSs.out; show w.heap.size ≤ s + 1; omega) _).setCell (by have := HSs.out; show w.heap.size ≤ s + 1; omega) _⟩
def hartsV : List Ht → Int
  | [] => 0
  | h :: t => if hfV h = 0 then hartsV t else hfV h
theorem harts_step (hs : List Ht) (j : Nat) (h : j < hs.length) : hartsV (hs.drop j) = if hfV (hs.getD j voidH) = 0 then hartsV (hs.drop (j + 1)) else hfV (hs.getD j voidH) := by
  rw [drop_cons_getD hs voidH j h, hartsV]
def hoV (X : Hst) : Int :=
  if pfV X.pol = 0 then
    if wholeB X.mem = true ∧ X.harts.length = X.pol.own.length then
      if hartsV X.harts = 0 then
        if ckOk X.clock = true then (if (tS X.pol X.clock).1 = X.slot ∧ (tS X.pol X.clock).2 = X.left then 0 else 1) else 3
      else hartsV X.harts
    else 1
  else pfV X.pol
theorem ho_ok {X : Hst} (h : hoV X = 0) : pfV X.pol = 0 ∧ 0 ≤ X.clock ∧ X.clock ≤ 1000000 := by
  unfold hoV at h
  split at h
  · rename_i h1
    split at h
    · split at h
      · split at h
        · rename_i h4
          unfold ckOk at h4
          simp at h4
          exact ⟨h1, h4⟩
        · cases h
      · rename_i h3
        exact absurd h h3
    · cases h
  · rename_i h1
    exact absurd h h1
structure Oj (w : World) (base : Nat) (a0 : Option Addr) (n0 c0 : Nat) (a1 : Option Addr) (n1 c1 : Nat) (a2 : Option Addr) (n2 c2 : Nat) (a3 : Option Addr) (n3 c3 : Nat) (m h : Value) (X : Hst) : Prop where
  pol : Pl w a0 n0 c0 a1 n1 c1 a2 n2 c2 a3 n3 c3 X.pol
  mem : Nums w base m X.mem
  harts : Hl w base h X.harts
theorem Oj.keep {w w' : World} {base : Nat} {a0 : Option Addr} {n0 c0 : Nat} {a1 : Option Addr} {n1 c1 : Nat} {a2 : Option Addr} {n2 c2 : Nat} {a3 : Option Addr} {n3 c3 : Nat} {m h : Value} {X : Hst} (d : Oj w base a0 n0 c0 a1 n1 c1 a2 n2 c2 a3 n3 c3 m h X) (b : Below w.heap.size w w') : Oj w' base a0 n0 c0 a1 n1 c1 a2 n2 c2 a3 n3 c3 m h X :=
  ⟨d.pol.stay b, d.mem.keep b, d.harts.keep b⟩
theorem Pags.store {w : World} {base g n cap : Nat} {zs : List Int} (h : Pags w base (.slice (some ⟨g, 0, none⟩) n cap) n zs) (j : Nat) (x : Int) :
    Pags (w.setCell ⟨g, j, none⟩ (.int .i64 x)) base (.slice (some ⟨g, 0, none⟩) n cap) n (zs.set j x) := by
  have h1 := (World.ownsRow.stored h j (.int .i64 x)).1
  unfold Pags
  rw [List.map_set]
  exact h1
theorem Pags.free {w : World} {base g n cap : Nat} {zs : List Int} (h : Pags w base (.slice (some ⟨g, 0, none⟩) n cap) n zs) (i : Nat) : w.frozen? ⟨g, i, none⟩ = false := World.ownsRow.frozenAt h i
theorem apt_sep {a b : Value} {m : Nat} (ha : ∀ k, a.ownBlock = some k → k < m) (hb : ∀ k, b.ownBlock = some k → m ≤ k) : Apt a b := by
  cases e : a.ownBlock with
  | none => exact .inl e
  | some k => exact .inr fun f => by rw [e] at f; have := ha k e; have := hb k f.symm; omega
theorem wp_shapes {w : World} {base : Nat} {v0 v1 v2 v3 : Value} {P : Plc} (h : WpE w base v0 v1 v2 v3 P) : ∃ b0 b1 b2 b3 d0 d1 d2 d3, v0 = .slice b0 P.own.length d0 ∧ v1 = .slice b1 P.lanes.length d1 ∧ v2 = .slice b2 P.bells.length d2 ∧ v3 = .slice b3 P.plan.length d3 := by
  obtain ⟨xs, h⟩ := h
  obtain ⟨b0, d0, e0⟩ := row_shape h.own
  obtain ⟨b1, d1, e1⟩ := row_shape h.lanes
  obtain ⟨b2, d2, e2⟩ := row_shape h.bells
  obtain ⟨b3, d3, e3⟩ := row_shape h.plan
  rw [h.xl] at e0
  exact ⟨b0, b1, b2, b3, d0, d1, d2, d3, e0, e1, e2, e3⟩
set_option maxRecDepth 20000 in
set_option maxHeartbeats 8000000 in
theorem i_hostAt (a0 a1 a2 a3 : Option Addr) (n0 c0 n1 c1 n2 c2 n3 c3 : Nat) (P : Plc) (ma : Option Addr) (mn mc : Nat) (ha : Option Addr) (hn hc : Nat) (sl le cl : Int) (w : World) (h : Pl w a0 n0 c0 a1 n1 c1 a2 n2 c2 a3 n3 c3 P) (sm : Small n0 n1 n2 n3 P) :
    Calls Tryz.prog 96 #[.agg #[.slice a0 n0 c0, .slice a1 n1 c1, .slice a2 n2 c2, .slice a3 n3 c3], .slice ma mn mc, .slice ha hn hc, .agg #[.int .i64 sl, .int .i64 le, .int .i64 cl]] w fun e w' => ∃ v0 v1 v2 v3, e = .returned (.agg #[v0, v1, v2, v3, .slice ma mn mc, .slice ha hn hc, .int .i64 sl, .int .i64 le, .int .i64 cl]) ∧ WpE w' w.heap.size v0 v1 v2 v3 P ∧ Below w.heap.size w w' := by
  generalize hW : ((w.alloc (.cells #[.slice a0 n0 c0, .slice a1 n1 c1, .slice a2 n2 c2, .slice a3 n3 c3] 37)).alloc (.cells #[.int .i64 sl, .int .i64 le, .int .i64 cl] 98)).alloc (.cells #[.slice none 0 0, .slice none 0 0, .slice none 0 0, .slice none 0 0, .slice none 0 0, .slice none 0 0, .int .i64 0, .int .i64 0, .int .i64 0] 40) = W
  have B0 : Hid (Below w.heap.size w W) := by show Below _ _ _; rw [← hW]; exact al (al (al (Below.refl _ _) _) _) _
  obtain ⟨s, hS⟩ : ∃ s, w.heap.size = s := ⟨_, rfl⟩
  have HSs : Hid (w.heap.size = s) := hS
  have z1 : s + 1 = (w.alloc (.cells #[.slice a0 n0 c0, .slice a1 n1 c1, .slice a2 n2 c2, .slice a3 n3 c3] 37)).heap.size := by rw [← hS]; simp
  have z2 : s + 2 = ((w.alloc (.cells #[.slice a0 n0 c0, .slice a1 n1 c1, .slice a2 n2 c2, .slice a3 n3 c3] 37)).alloc (.cells #[.int .i64 sl, .int .i64 le, .int .i64 cl] 98)).heap.size := by rw [← hS]; simp
  have Q : Hid (Vb W s #[.slice a0 n0 c0, .slice a1 n1 c1, .slice a2 n2 c2, .slice a3 n3 c3] 37) := by show Vb _ _ _ _; rw [← hW, ← hS]; exact ((Vb.new _ _ _).push _).push _
  have U : Hid (Vb W (s + 1) #[.int .i64 sl, .int .i64 le, .int .i64 cl] 98) := by show Vb _ _ _ _; rw [← hW, z1]; exact (Vb.new _ _ _).push _
  have R : Hid (Vb W (s + 2) #[.slice none 0 0, .slice none 0 0, .slice none 0 0, .slice none 0 0, .slice none 0 0, .slice none 0 0, .int .i64 0, .int .i64 0, .int .i64 0] 40) := by show Vb _ _ _ _; rw [← hW, z2]; exact Vb.new _ _ _
  have ZW : Hid (s + 3 = W.heap.size) := by show _ = _; rw [← hW, ← hS]; simp
  clear z1 z2
  have D : Hid (Pl W a0 n0 c0 a1 n1 c1 a2 n2 c2 a3 n3 c3 P) := h.stay B0.out
  have SMP : Hid (Small n0 n1 n2 n3 P) := sm
  clear h sm
  have QL : Hid (∀ w', SvN 9 W (s + 2) w' → Vb w' s #[.slice a0 n0 c0, .slice a1 n1 c1, .slice a2 n2 c2, .slice a3 n3 c3] 37 ∧ Vb w' (s + 1) #[.int .i64 sl, .int .i64 le, .int .i64 cl] 98) := fun w' hs => ⟨hs.1.vb Q.out (by omega), hs.1.vb U.out (by omega)⟩
  have BS : Hid (∀ w', SvN 9 W (s + 2) w' → Below w.heap.size w w') := fun w' hs => Mq.under B0.out hs.1 fun k e => by have := HSs.out; omega
  have LT : Hid (s + 2 < W.heap.size) := R.out.lt
  have Sv0 : Hid (SvN 9 W (s + 2) W.drew) := SvN.step ⟨Mq.refl _ _, R.out.there 9 (by decide)⟩ LT.out (Below.refl _ _).drew
  have E0 : Hid (Below W.heap.size W W.drew) := (Below.refl _ _).drew
  go_enter Tryz.func96, Tryz.ntmps96
  go_upto_region 1 with fail
  clear hW hS
  refine wp_region_held (S := fun w' => SvN 9 W (s + 2) w') (by kernel_rfl) ?_
  change wpAnyH _ _ _ _ _ _ _ _ (World.drew _)
  generalize W.drew = u0 at *
  refine wpTk (i := 0) (v := (.agg #[.slice a0 n0 c0, .slice a1 n1 c1, .slice a2 n2 c2, .slice a3 n3 c3])) rfl (Or.inl ⟨by rfl, fun w' hs => by have qv := (QL.out w' hs).1; have y0 := qv.cell 0 rfl; have y1 := qv.cell 1 rfl; have y2 := qv.cell 2 rfl; have y3 := qv.cell 3 rfl; go_simp⟩) Sv0.out ?_
  change wpAnyH _ _ _ _ _ _ _ (Act.put _ (some 9) _) _
  simp only [Act.put, zT, zZ, zS]
  refine wpTk (i := 2) (v := (.slice ma mn mc)) rfl (Or.inl ⟨by rfl, fun w' hs => by go_simp⟩) Sv0.out ?_
  change wpAnyH _ _ _ _ _ _ _ (Act.put _ (some 11) _) _
  simp only [Act.put, zT, zZ, zS]
  refine wpTk (i := 3) (v := (.slice ha hn hc)) rfl (Or.inl ⟨by rfl, fun w' hs => by go_simp⟩) Sv0.out ?_
  change wpAnyH _ _ _ _ _ _ _ (Act.put _ (some 12) _) _
  simp only [Act.put, zT, zZ, zS]
  refine wpTk (i := 4) (v := (.pointer (some ⟨s + 1, 0, none⟩))) rfl (Or.inl ⟨by rfl, fun w' hs => by go_simp⟩) Sv0.out ?_
  change wpAnyH _ _ _ _ _ _ _ (Act.put _ (some 13) _) _
  simp only [Act.put, zT, zZ, zS]
  refine wpTk (i := 5) (v := (.int .i64 sl)) rfl (Or.inl ⟨by rfl, fun w' hs => by have y := (QL.out w' hs).2.cell 0 rfl; go_simp⟩) Sv0.out ?_
  change wpAnyH _ _ _ _ _ _ _ (Act.put _ (some 14) _) _
  simp only [Act.put, zT, zZ, zS]
  refine wpTk (i := 6) (v := (.pointer (some ⟨s + 1, 1, none⟩))) rfl (Or.inl ⟨by rfl, fun w' hs => by go_simp⟩) Sv0.out ?_
  change wpAnyH _ _ _ _ _ _ _ (Act.put _ (some 15) _) _
  simp only [Act.put, zT, zZ, zS]
  refine wpTk (i := 7) (v := (.int .i64 le)) rfl (Or.inl ⟨by rfl, fun w' hs => by have y := (QL.out w' hs).2.cell 1 rfl; go_simp⟩) Sv0.out ?_
  change wpAnyH _ _ _ _ _ _ _ (Act.put _ (some 16) _) _
  simp only [Act.put, zT, zZ, zS]
  refine wpTk (i := 8) (v := (.pointer (some ⟨s + 1, 2, none⟩))) rfl (Or.inl ⟨by rfl, fun w' hs => by go_simp⟩) Sv0.out ?_
  change wpAnyH _ _ _ _ _ _ _ (Act.put _ (some 17) _) _
  simp only [Act.put, zT, zZ, zS]
  refine wpTk (i := 9) (v := (.int .i64 cl)) rfl (Or.inl ⟨by rfl, fun w' hs => by have y := (QL.out w' hs).2.cell 2 rfl; go_simp⟩) Sv0.out ?_
  change wpAnyH _ _ _ _ _ _ _ (Act.put _ (some 18) _) _
  simp only [Act.put, zT, zZ, zS]
  refine zR 1 rfl fun K hK => ?_
  rw [if_pos (by rfl)]
  go_simp
  refine (i_copyPolicy _ _ _ _ _ _ _ _ _ _ _ _ P _ (D.out.stay E0.out) SMP.out).mono ?_
  rintro e u1 ⟨_, _, _, _, rfl, wp, b1⟩
  obtain ⟨b0, b1a, b2, b3, d0, d1, d2, d3, e0, e1, e2, e3⟩ := wp_shapes wp
  subst e0 e1 e2 e3
  obtain ⟨m0, hm0⟩ : ∃ n, P.own.length = n := ⟨_, rfl⟩
  obtain ⟨m1, hm1⟩ : ∃ n, P.lanes.length = n := ⟨_, rfl⟩
  obtain ⟨m2, hm2⟩ : ∃ n, P.bells.length = n := ⟨_, rfl⟩
  obtain ⟨m3, hm3⟩ : ∃ n, P.plan.length = n := ⟨_, rfl⟩
  rw [hm0, hm1, hm2, hm3] at wp ⊢
  have WP : Hid (WpE u1 u0.heap.size (.slice b0 m0 d0) (.slice b1a m1 d1) (.slice b2 m2 d2) (.slice b3 m3 d3) P) := wp
  have Sv1 : Hid (SvN 9 W (s + 2) u1) := Sv0.out.step LT.out b1
  clear wp b1 hm0 hm1 hm2 hm3
  refine hK.out _ _ Sv1.out (fun _ => ?_)
  clear hK K
  refine wpTk (i := 10) (v := (.agg #[.slice b0 m0 d0, .slice b1a m1 d1, .slice b2 m2 d2, .slice b3 m3 d3, .slice ma mn mc, .slice ha hn hc, .int .i64 sl, .int .i64 le, .int .i64 cl])) rfl (Or.inl ⟨by rfl, fun w' hs => by go_simp⟩) Sv1.out ?_
  change wpAnyH _ _ _ _ _ _ _ (Act.put _ (some 19) _) _
  simp only [Act.put, zT, zZ, zS]
  refine zR 11 rfl fun K hK => ?_
  rw [if_pos (by rfl)]
  refine wp_store_mid 40 (.tmp 8) (.tmp 19) rfl (s + 2) 0 #[.slice b0 m0 d0, .slice b1a m1 d1, .slice b2 m2 d2, .slice b3 m3 d3, .slice ma mn mc, .slice ha hn hc, .int .i64 sl, .int .i64 le, .int .i64 cl] rfl rfl Sv1.out.2 (by kernel_rfl) (by simp [Value.oneCell']) ?_
  change K (Act.put _ none undef) _
  simp only [Act.put]
  have S6 : Hid (SvN 9 W (s + 2) (u1.setCells (s + 2) 0 #[.slice b0 m0 d0, .slice b1a m1 d1, .slice b2 m2 d2, .slice b3 m3 d3, .slice ma mn mc, .slice ha hn hc, .int .i64 sl, .int .i64 le, .int .i64 cl].toList)) := Sv1.out.set _
  have R6 : Hid ((u1.setCells (s + 2) 0 #[.slice b0 m0 d0, .slice b1a m1 d1, .slice b2 m2 d2, .slice b3 m3 d3, .slice ma mn mc, .slice ha hn hc, .int .i64 sl, .int .i64 le, .int .i64 cl].toList).rangeAt (s + 2) 0 #[.slice b0 m0 d0, .slice b1a m1 d1, .slice b2 m2 d2, .slice b3 m3 d3, .slice ma mn mc, .slice ha hn hc, .int .i64 sl, .int .i64 le, .int .i64 cl].toList) := World.rangeAt_setCells_same _ _ _ _ Sv1.out.2
  have Q6 : Hid (Mq (fun k => k = s + 2) u1 (u1.setCells (s + 2) 0 #[.slice b0 m0 d0, .slice b1a m1 d1, .slice b2 m2 d2, .slice b3 m3 d3, .slice ma mn mc, .slice ha hn hc, .int .i64 sl, .int .i64 le, .int .i64 cl].toList)) := mq_cells (s + 2) _ u1 0
  generalize u1.setCells (s + 2) 0 #[.slice b0 m0 d0, .slice b1a m1 d1, .slice b2 m2 d2, .slice b3 m3 d3, .slice ma mn mc, .slice ha hn hc, .int .i64 sl, .int .i64 le, .int .i64 cl].toList = u6 at *
  refine hK.out _ _ S6.out (fun _ => ?_)
  clear hK K
  refine wpAnyH_done (by kernel_rfl) ?_ _
  have O6 : Ho (s + 3) u1 u6 := Q6.out.ho fun k e => by omega
  have F : Hid (WpE u6 w.heap.size (.slice b0 m0 d0) (.slice b1a m1 d1) (.slice b2 m2 d2) (.slice b3 m3 d3) P) := by
    obtain ⟨xs, hx⟩ := WP.out
    exact ⟨xs, ((hx.mono (by have := ZW.out; have := E0.out.size; omega)).ho O6).mono (by have := HSs.out; omega)⟩
  have B6 : Hid (Below w.heap.size w u6) := BS.out _ S6.out
  have LD := run_loadVar_mid (P := Tryz.prog) u6 (s + 2) 0 40 #[.slice b0 m0 d0, .slice b1a m1 d1, .slice b2 m2 d2, .slice b3 m3 d3, .slice ma mn mc, .slice ha hn hc, .int .i64 sl, .int .i64 le, .int .i64 cl].toList _ R6.out Tryz.underlying40 rfl (by kernel_rfl)
  go_wp2_with fail
  exact bodyPost_ret (v := .agg #[.slice b0 m0 d0, .slice b1a m1 d1, .slice b2 m2 d2, .slice b3 m3 d3, .slice ma mn mc, .slice ha hn hc, .int .i64 sl, .int .i64 le, .int .i64 cl]) (by simp [results, Tryz.results96, asAddr]; rw [LD]) rfl ⟨_, _, _, _, rfl, F.out, B6.out⟩
def voidX : Hst := ⟨⟨[], [], [], []⟩, [], [], 0, 0, 0⟩
def SwN (w : World) (b : Nat) (a : Option Addr) (n c : Nat) (jss : List (List Int)) : Prop :=
  (a = none ∧ n = 0 ∧ c = 0 ∧ jss = []) ∨ ∃ g, a = some ⟨g, 0, none⟩ ∧ n ≤ c ∧ c ≤ maxLen ∧ jss.length = n ∧ ∀ i, i < n → ∃ x l k, w.cell? ⟨g, i, none⟩ = some (.slice x l k) ∧ Nums w b (.slice x l k) (jss.getD i [])
theorem SwN.keep {w w' : World} {b n c : Nat} {a : Option Addr} {jss : List (List Int)} (h : SwN w b a n c jss) (B : Below w.heap.size w w') : SwN w' b a n c jss := by
  rcases h with h | ⟨g, h1, h2, h3, h4, h5⟩
  · exact .inl h
  · exact .inr ⟨g, h1, h2, h3, h4, fun i hi => by obtain ⟨x, l, k, k1, k2⟩ := h5 i hi; exact ⟨x, l, k, cell_keep B k1, k2.keep B⟩⟩
theorem SwN.len {w : World} {b n c : Nat} {a : Option Addr} {jss : List (List Int)} (h : SwN w b a n c jss) : jss.length = n ∧ n ≤ c ∧ c ≤ maxLen := by
  rcases h with ⟨_, rfl, rfl, rfl⟩ | ⟨g, _, h2, h3, h4, _⟩
  · exact ⟨rfl, Nat.le_refl _, by unfold maxLen; omega⟩
  · exact ⟨h4, h2, h3⟩
def OwE (w : World) (base : Nat) (v0 v1 v2 v3 v4 v5 : Value) (X : Hst) : Prop := ∃ xs qs, Ow w base v0 v1 v2 v3 v4 v5 X xs qs
theorem OwE.keep {w w' : World} {base : Nat} {v0 v1 v2 v3 v4 v5 : Value} {X : Hst} (h : OwE w base v0 v1 v2 v3 v4 v5 X) (b : Below w.heap.size w w') : OwE w' base v0 v1 v2 v3 v4 v5 X := by
  obtain ⟨xs, qs, h⟩ := h; exact ⟨xs, qs, h.keep b⟩
theorem range_new (w : World) (cs : Array Value) (t : TypeId) : (w.alloc (.cells cs t)).rangeAt w.heap.size 0 cs.toList := fun j v hv => by
  rw [Nat.zero_add]
  exact cell_new (by rw [← Array.getElem?_toList]; exact hv)
theorem hm_keptX {w w' : World} {base : Nat} {r c i o : Value} {H : Ht} {row : Option Nat} (h : Hm w base r c i o H) (hG : w.grownBy w' row) (hne : ∀ v zs, Nums w base v zs → v.ownBlock = none ∨ v.ownBlock ≠ row) : Hm w' base r c i o H :=
  ⟨h.r.kept hG (hne _ _ h.r), h.c.kept hG (hne _ _ h.c), h.i.kept hG (hne _ _ h.i), h.o.kept hG (hne _ _ h.o)⟩
theorem ha_pw {r c i o : Value} (h : Ha r c i o) : (V4.l ⟨r, c, i, o⟩).Pairwise Apt := by
  simp only [V4.l, List.pairwise_cons, List.mem_cons, List.not_mem_nil, or_false, forall_eq_or_imp, forall_eq]
  exact ⟨⟨h.rc, h.ri, h.ro⟩, ⟨h.ci, h.co⟩, h.io, by simp, List.Pairwise.nil⟩
structure Mw (w : World) (base : Nat) (v : Value) (jss : List (List Int)) (j : Nat) (qs : List (V4 × Ht)) : Prop where
  len : qs.length = j
  row : w.ownsRow base 60 9 v qs.length (flat9 qs)
  one : ∀ (i : Nat) (q : V4 × Ht), qs[i]? = some q → q.2 = newV (jss.getD i []) ∧ Hm w base q.1.r q.1.c q.1.i q.1.o q.2
  apart : (qs.flatMap fun q => q.1.l).Pairwise Apt
theorem Mw.keep {w w' : World} {base j : Nat} {v : Value} {jss : List (List Int)} {qs : List (V4 × Ht)} (h : Mw w base v jss j qs) (b : Below w.heap.size w w') : Mw w' base v jss j qs :=
  ⟨h.len, row_keepX h.row b, fun i q e => ⟨(h.one i q e).1, (h.one i q e).2.keep b⟩, h.apart⟩
theorem Mw.lists {w : World} {base j : Nat} {v : Value} {jss : List (List Int)} {qs : List (V4 × Ht)} (h : Mw w base v jss j qs) : ∀ u ∈ (qs.flatMap fun q => q.1.l), ∃ zs, Nums w base u zs := fun u hu => by
  obtain ⟨q, hq, hv⟩ := List.mem_flatMap.1 hu
  obtain ⟨i, hi, e⟩ := List.mem_iff_getElem.1 hq
  have m := (h.one i q (by rw [List.getElem?_eq_getElem hi, e])).2
  simp only [V4.l, List.mem_cons, List.not_mem_nil, or_false] at hv
  rcases hv with rfl | rfl | rfl | rfl
  · exact ⟨_, m.r⟩
  · exact ⟨_, m.c⟩
  · exact ⟨_, m.i⟩
  · exact ⟨_, m.o⟩
theorem Mw.step {wr w w' : World} {base j : Nat} {v v' r c i o : Value} {jss : List (List Int)} {qs : List (V4 × Ht)} {H : Ht} (h : Mw wr base v jss j qs) (b : Below wr.heap.size wr w) (hm : Hm w wr.heap.size r c i o H) (ha : Ha r c i o) (hb : base ≤ wr.heap.size) (hH : H = newV (jss.getD j [])) (hO : w'.ownsRow base 60 9 v' (qs ++ [((⟨r, c, i, o⟩ : V4), H)]).length (flat9 (qs ++ [((⟨r, c, i, o⟩ : V4), H)]))) (hG : w.grownBy w' v.ownBlock) : Mw w' base v' jss (j + 1) (qs ++ [((⟨r, c, i, o⟩ : V4), H)]) := by
  have hne : ∀ (bs : Nat) (u : Value) (zs : List Int), Nums w bs u zs → u.ownBlock = none ∨ u.ownBlock ≠ v.ownBlock := fun bs u zs hu => row_typesX hu (row_keepX h.row b) (by decide)
  refine ⟨by rw [List.length_append, h.len]; rfl, hO, fun k q e => ?_, ?_⟩
  · by_cases hk : k < qs.length
    · rw [List.getElem?_append_left hk] at e
      exact ⟨(h.one k q e).1, hm_keptX ((h.one k q e).2.keep b) hG (hne base)⟩
    · rw [List.getElem?_append_right (by omega)] at e
      have hk0 : k - qs.length = 0 := by
        rcases Nat.eq_zero_or_pos (k - qs.length) with h0 | h0
        · exact h0
        · rw [List.getElem?_eq_none (by simp; omega)] at e; cases e
      rw [hk0] at e
      cases e
      have : k = j := by have := h.len; omega
      subst this
      exact ⟨hH, (hm_keptX hm hG (hne _)).mono hb⟩
  · rw [List.flatMap_append, List.pairwise_append]
    refine ⟨h.apart, by simpa using ha_pw ha, fun a ha' b' hb' => ?_⟩
    obtain ⟨_, na⟩ := h.lists a ha'
    have hb2 : b' ∈ V4.l ⟨r, c, i, o⟩ := by simpa using hb'
    have nb : ∃ zs, Nums w wr.heap.size b' zs := by
      simp only [V4.l, List.mem_cons, List.not_mem_nil, or_false] at hb2
      rcases hb2 with rfl | rfl | rfl | rfl
      · exact ⟨_, hm.r⟩
      · exact ⟨_, hm.c⟩
      · exact ⟨_, hm.i⟩
      · exact ⟨_, hm.o⟩
    obtain ⟨_, nb⟩ := nb
    exact apt_sep (m := wr.heap.size) (fun k e => (na.lt k e).2) (fun k e => (nb.lt k e).1)
end Go.Proofs.YtggejbphdadckaaGreatDoor
