/- Numbers of a machine that are set: the program's. -/
import Derived.Test.YteaccakodaidpaaHge
import Derived.Laws.BitsAllLaws
import Derived.Deep.RegionWith
namespace Go.Proofs.Yteaccakodaidpaa
open Go.RowKit
set_option linter.unusedVariables false

theorem gt_set (zs : List Int) (n j : Nat) (u : Int) (hn : n < zs.length) : gt (zs.set n u) j = if j = n then u else gt zs j := by
  unfold gt
  rw [List.getD_eq_getElem?_getD, List.getD_eq_getElem?_getD, List.getElem?_set]
  by_cases h : n = j
  · subst h
    simp [hn]
  · rw [if_neg h, if_neg (fun e => h e.symm)]
theorem mca_set (H : Ht) (i o : Value) (n : Nat) (u : Int) (hn : n < 11) (hc : H.csr.length = 11) : (mca H i o).setIfInBounds (17 + n) (.int .i64 u) = mca { H with csr := H.csr.set n u } i o := by
  have g : ∀ j, gt (H.csr.set n u) j = if j = n then u else gt H.csr j := fun j => gt_set _ _ _ _ (by omega)
  have e : n = 0 ∨ n = 1 ∨ n = 2 ∨ n = 3 ∨ n = 4 ∨ n = 5 ∨ n = 6 ∨ n = 7 ∨ n = 8 ∨ n = 9 ∨ n = 10 := by omega
  unfold mca
  simp only [g]
  rcases e with rfl | rfl | rfl | rfl | rfl | rfl | rfl | rfl | rfl | rfl | rfl <;> rfl
theorem mca_rung (H : Ht) (i o : Value) (u : Bool) : (mca H i o).setIfInBounds 30 (.bool u) = mca { H with rung := u } i o := rfl
theorem mca_wait (H : Ht) (i o : Value) (u : Bool) : (mca H i o).setIfInBounds 29 (.bool u) = mca { H with waiting := u } i o := rfl
theorem mca_pc (H : Ht) (i o : Value) (u : Int) : (mca H i o).setIfInBounds 16 (.int .i64 u) = mca { H with pc := u } i o := rfl

theorem Mq.dr {S : Nat → Prop} {a w : World} (m : Mq S a w) : Mq S a w.drew := ⟨m.os, m.tape, m.output, m.size, m.block⟩
/-- A machine with a number and its bell set. -/
def stH (H : Ht) (n : Nat) (u : Int) (r : Bool) : Ht := { H with csr := H.csr.set n u, rung := r }
theorem and_two (n : Nat) : n &&& 2 = n / 2 % 2 * 2 := by
  have h1 : n &&& 2 ≤ 2 := Nat.and_le_right
  have h2 : (n &&& 2) % 2 ^ 2 = (n % 2 ^ 2) &&& (2 % 2 ^ 2) := Nat.and_mod_two_pow
  have h3 : (n &&& 2) % 2 ^ 2 = n &&& 2 := Nat.mod_eq_of_lt (by omega)
  rw [h3, show (2 : Nat) % 2 ^ 2 = 2 from rfl, show (2 : Nat) ^ 2 = 4 from rfl] at h2
  rw [h2]
  have e : n % 4 = 0 ∨ n % 4 = 1 ∨ n % 4 = 2 ∨ n % 4 = 3 := by omega
  rcases e with e | e | e | e <;> rw [e]
  · show 0 = _; omega
  · show 0 = _; omega
  · show 2 = _; omega
  · show 2 = _; omega
theorem i64_and_nat (a b : Nat) (ha : a < 4611686018427387904) (hb : b < 4611686018427387904) : bits .and .i64 (a : Int) (b : Int) = ((a &&& b : Nat) : Int) := by
  have hx : a &&& b ≤ a := Nat.and_le_left
  have e : ∀ c : Nat, c < 4611686018427387904 → (BitVec.ofInt 64 (c : Int)).toNat = c := fun c hc => by
    rw [BitVec.ofInt_natCast, BitVec.toNat_ofNat]; exact Nat.mod_eq_of_lt (by omega)
  show IntKind.i64.wrap ((BitVec.ofInt 64 (a : Int) &&& BitVec.ofInt 64 (b : Int)).toNat : Int) = _
  rw [BitVec.toNat_and, e a ha, e b hb, IntKind.wrap_i64]
  omega
theorem bit_two (x : Int) (h0 : 0 ≤ x) (h1 : x ≤ 4294967295) : (bits BinOp.and IntKind.i64 x 2 != 0) = decide (2 ≤ x % 4) := by
  obtain ⟨n, rfl⟩ := Int.eq_ofNat_of_zero_le h0
  have := i64_and_nat n 2 (by omega) (by omega)
  rw [show ((2 : Nat) : Int) = 2 from rfl] at this
  rw [this, and_two]
  by_cases h : 2 ≤ (n : Int) % 4
  · rw [decide_eq_true h, bne_iff_ne]
    omega
  · rw [decide_eq_false h]
    have e : ((n / 2 % 2 * 2 : Nat) : Int) = 0 := by omega
    rw [e]
    rfl

set_option maxRecDepth 20000 in
set_option maxHeartbeats 4000000 in
theorem i_set (m : Nat) (i o : Value) (H : Ht) (k x : Int) (w : World) (hv : Vb w m (mca H i o) 103) (hc : H.csr.length = 11) (h0 : 0 ≤ k) (h10 : k ≤ 10) (hx : 0 ≤ x) (hx2 : x ≤ 4294967295) :
    Calls Try.prog 92 #[.pointer (some ⟨m, 0, none⟩), .int .i64 k, .int .i64 x] w fun e w' => e = .returned (.tuple #[]) ∧ Vb w' m (mca (stH H k.toNat (standV k x) (H.rung && !(decide (k = 6) && decide (2 ≤ x % 4)))) i o) 103 ∧ Mq (fun j => j = m) w w' := by
  have HX : Hid (0 ≤ x ∧ x ≤ 4294967295) := ⟨hx, hx2⟩
  have HV : Hid (Vb w m (mca H i o) 103) := hv
  have HC : Hid (H.csr.length = 11) := hc
  have hb := bit_two x hx hx2
  obtain ⟨u, hu⟩ : ∃ u, standV k x = u := ⟨_, rfl⟩
  rw [hu]
  have HU : Hid (standV k x = u) := hu
  obtain ⟨n, rfl⟩ : ∃ n : Nat, k = n := ⟨k.toNat, by omega⟩
  have hI : (n : Int) < 11 := by omega
  have HN : Hid (n < 11) := by show _ < _; omega
  clear hu
  by_cases h6 : n = 6
  · subst h6
    have HU6 : Hid (standV 6 x = u) := HU.out
    cases hd : decide (2 ≤ x % 4)
    · rw [hd] at hb
      rw [show (H.rung && !(decide (((6 : Nat) : Int) = 6) && false)) = H.rung by simp]
      have hcell := hv.cell (17 + 6) (mca_at H i o 6 (by decide))
      have hfree := hv.free (17 + 6)
      clear hv hc
      go_enter Try.func92, Try.ntmps92
      go_wp2_with fail
      go_region_with (go_at_call 90; refine (i_stand _ _ _ HX.out.1 HX.out.2).mono ?_; rintro e x' ⟨rfl, hx'⟩; rw [hx']; clear hx'; rw [HU6.out])
      all_goals go_wp2_with fail
      all_goals go_end0
      all_goals exact ⟨rfl, by have := HV.out.set (17 + 6) (.int .i64 u); rw [mca_set H i o 6 u (by decide) HC.out] at this; exact this, ((Mq.refl (fun j => j = m) w).set ⟨m, 17 + 6, none⟩ (.int .i64 u) rfl).dr⟩
    · rw [hd] at hb
      rw [show (H.rung && !(decide (((6 : Nat) : Int) = 6) && true)) = false by simp]
      have c30 := hv.cell 30 rfl
      have f30 := hv.free 30
      have hcell : (w.setCell ⟨m, 30, none⟩ (.bool false)).cell? ⟨m, 17 + 6, none⟩ = some (.int .i64 (gt H.csr 6)) := (hv.set 30 (.bool false)).cell (17 + 6) rfl
      have hfree : (w.setCell ⟨m, 30, none⟩ (.bool false)).frozen? ⟨m, 17 + 6, none⟩ = false := (hv.set 30 (.bool false)).free (17 + 6)
      have HV2 : Hid (Vb (w.setCell ⟨m, 30, none⟩ (.bool false)) m (mca { H with rung := false } i o) 103) := hv.set 30 (.bool false)
      have MQ2 : Hid (Mq (fun j => j = m) w (w.setCell ⟨m, 30, none⟩ (.bool false))) := (Mq.refl (fun j => j = m) w).set ⟨m, 30, none⟩ (.bool false) rfl
      clear hv hc
      go_enter Try.func92, Try.ntmps92
      go_wp2_with fail
      generalize w.setCell ⟨m, 30, none⟩ (.bool false) = W at *
      clear c30 f30
      go_region_with (go_at_call 90; refine (i_stand _ _ _ HX.out.1 HX.out.2).mono ?_; rintro e x' ⟨rfl, hx'⟩; rw [hx']; clear hx'; rw [HU6.out])
      all_goals go_wp2_with fail
      all_goals go_end0
      all_goals exact ⟨rfl, by have := HV2.out.set (17 + 6) (.int .i64 u); rw [mca_set { H with rung := false } i o 6 u (by decide) HC.out] at this; exact this, (MQ2.out.set ⟨m, 17 + 6, none⟩ (.int .i64 u) rfl).dr⟩
  · have h6' : ¬ (n : Int) = 6 := by omega
    have hcell := hv.cell (17 + n) (mca_at H i o n HN.out)
    have hfree := hv.free (17 + n)
    rw [show (H.rung && !(decide ((n : Int) = 6) && decide (2 ≤ x % 4))) = H.rung by simp [h6']]
    clear hv hc hb
    go_enter Try.func92, Try.ntmps92
    go_wp2_with fail
    go_region_with (go_at_call 90; refine (i_stand _ _ _ HX.out.1 HX.out.2).mono ?_; rintro e x' ⟨rfl, hx'⟩; rw [hx']; clear hx'; rw [HU.out])
    all_goals go_wp2_with fail
    all_goals go_end0
    all_goals exact ⟨rfl, by have := HV.out.set (17 + n) (.int .i64 u); rw [mca_set H i o n u HN.out HC.out] at this; exact this, ((Mq.refl (fun j => j = m) w).set ⟨m, 17 + n, none⟩ (.int .i64 u) rfl).dr⟩

theorem dr_vb {w : World} {q : Nat} {cs : Array Value} {t : TypeId} (h : Vb w q cs t) : Vb w.drew q cs t := h

end Go.Proofs.Yteaccakodaidpaa
