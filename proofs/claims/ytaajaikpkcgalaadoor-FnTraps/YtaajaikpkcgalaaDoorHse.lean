/- Numbers of a machine that are set: the program's. -/
import Derived.Test.YtaajaikpkcgalaaDoorHge
import Derived.Laws.BitsAllLaws
import Derived.Deep.RegionWith
namespace Go.Proofs.YtaajaikpkcgalaaDoor
open Go.RowKit
set_option linter.unusedVariables false

theorem gt_set (zs : List Int) (n j : Nat) (u : Int) (hn : n < zs.length) : gt (zs.set n u) j = if j = n then u else gt zs j := by
  unfold gt
  rw [List.getD_eq_getElem?_getD, List.getD_eq_getElem?_getD, List.getElem?_set]
  by_cases h : n = j
  · subst h
    simp [hn]
  · rw [if_neg h, if_neg (fun e => h e.symm)]
theorem mca_set (H : Ht) (i o : Value) (n : Nat) (u : Int) (hn : n < 11) (hc : H.csr.length = 11) : (mca H i o).setIfInBounds (17 + n) (.int .i64 u) = mca { H with csr := H.csr.set n u } i o := by
  have g : ∀ j, gt (H.csr.set n u) j = if j = n then u else gt H.csr j := fun j => gt_set _ _ _ _ (by omega)
  have e : n = 0 ∨ n = 1 ∨ n = 2 ∨ n = 3 ∨ n = 4 ∨ n = 5 ∨ n = 6 ∨ n = 7 ∨ n = 8 ∨ n = 9 ∨ n = 10 := by omega
  unfold mca
  simp only [g]
  rcases e with rfl | rfl | rfl | rfl | rfl | rfl | rfl | rfl | rfl | rfl | rfl <;> rfl
theorem mca_rung (H : Ht) (i o : Value) (u : Bool) : (mca H i o).setIfInBounds 30 (.bool u) = mca { H with rung := u } i o := rfl
theorem mca_wait (H : Ht) (i o : Value) (u : Bool) : (mca H i o).setIfInBounds 29 (.bool u) = mca { H with waiting := u } i o := rfl
theorem mca_pc (H : Ht) (i o : Value) (u : Int) : (mca H i o).setIfInBounds 16 (.int .i64 u) = mca { H with pc := u } i o := rfl

theorem Mq.dr {S : Nat → Prop} {a w : World} (m : Mq S a w) : Mq S a w.drew := ⟨m.os, m.tape, m.output, m.size, m.block⟩
/-- A machine with a number and its bell set. -/
def stH (H : Ht) (n : Nat) (u : Int) (r : Bool) : Ht := { H with csr := H.csr.set n u, rung := r }
theorem and_two (n : Nat) : n &&& 2 = n / 2 % 2 * 2 := by
  have h1 : n &&& 2 ≤ 2 := Nat.and_le_right
  have h2 : (n &&& 2) % 2 ^ 2 = (n % 2 ^ 2) &&& (2 % 2 ^ 2) := Nat.and_mod_two_pow
  have h3 : (n &&& 2) % 2 ^ 2 = n &&& 2 := Nat.mod_eq_of_lt (by omega)
  rw [h3, show (2 : Nat) % 2 ^ 2 = 2 from rfl, show (2 : Nat) ^ 2 = 4 from rfl] at h2
  rw [h2]
  have e : n % 4 = 0 ∨ n % 4 = 1 ∨ n % 4 = 2 ∨ n % 4 = 3 := by omega
  rcases e with e | e | e | e <;> rw [e]
  · show 0 = _; omega
  · show 0 = _; omega
  · show 2 = _; omega
  · show 2 = _; omega
theorem i64_and_nat (a b : Nat) (ha : a < 4611686018427387904) (hb : b < 4611686018427387904) : bits .and .i64 (a : Int) (b : Int) = ((a &&& b : Nat) : Int) := by
  have hx : a &&& b ≤ a := Nat.and_le_left
  have e : ∀ c : Nat, c < 4611686018427387904 → (BitVec.ofInt 64 (c : Int)).toNat = c := fun c hc => by
    rw [BitVec.ofInt_natCast, BitVec.toNat_ofNat]; exact Nat.mod_eq_of_lt (by omega)
  show IntKind.i64.wrap ((BitVec.ofInt 64 (a : Int) &&& BitVec.ofInt 64 (b : Int)).toNat : Int) = _
  rw [BitVec.toNat_and, e a ha, e b hb, IntKind.wrap_i64]
  omega
theorem bit_two (x : Int) (h0 : 0 ≤ x) (h1 : x ≤ 4294967295) : (bits BinOp.and IntKind.i64 x 2 != 0) = decide (2 ≤ x % 4) := by
  obtain ⟨n, rfl⟩ := Int.eq_ofNat_of_zero_le h0
  have := i64_and_nat n 2 (by omega) (by omega)
  rw [show ((2 : Nat) : Int) = 2 from rfl] at this
  rw [this, and_two]
  by_cases h : 2 ≤ (n : Int) % 4
  · rw [decide_eq_true h, bne_iff_ne]
    omega
  · rw [decide_eq_false h]
    have e : ((n / 2 % 2 * 2 : Nat) : Int) = 0 := by omega
    rw [e]
    rfl

theorem dr_vb {w : World} {q : Nat} {cs : Array Value} {t : TypeId} (h : Vb w q cs t) : Vb w.drew q cs t := h

set_option maxRecDepth 20000 in
set_option maxHeartbeats 8000000 in
theorem i_goBack /- 9 -/ (m : Nat) (i o : Value) (H : Ht) (w : World) (hv : Vb w m (mca H i o) 56) (hc : H.csr.length = 11) (h0 : 0 ≤ gt H.csr 0) (h1 : gt H.csr 0 ≤ 3) :
    Calls Tryd.prog 32 #[.pointer (some ⟨m, 0, none⟩)] w fun e w' => e = .returned (.tuple #[]) ∧ Vb w' m (mca (backV H) i o) 56 ∧ Mq (fun j => j = m) w w' := by
  have HV1 : Hid (Vb (w.setCell ⟨m, 16, none⟩ (.int .i64 (gt H.csr 2))) m (mca { H with pc := gt H.csr 2 } i o) 56) := hv.set 16 _
  have MQ1 : Hid (Mq (fun j => j = m) w (w.setCell ⟨m, 16, none⟩ (.int .i64 (gt H.csr 2)))) := (Mq.refl (fun j => j = m) w).set ⟨m, 16, none⟩ _ rfl
  have HC : Hid (H.csr.length = 11) := hc
  have c16 := hv.cell 16 rfl
  have f16 := hv.free 16
  have c19 : w.cell? ⟨m, 19, none⟩ = some (.int .i64 (gt H.csr 2)) := hv.cell 19 rfl
  have d17 : (w.setCell ⟨m, 16, none⟩ (.int .i64 (gt H.csr 2))).cell? ⟨m, 17, none⟩ = some (.int .i64 (gt H.csr 0)) := HV1.out.cell 17 rfl
  have e17 : (w.setCell ⟨m, 16, none⟩ (.int .i64 (gt H.csr 2))).frozen? ⟨m, 17, none⟩ = false := HV1.out.free 17
  have t2 : (gt H.csr 0).tdiv 2 = gt H.csr 0 / 2 := Int.tdiv_eq_ediv_of_nonneg h0
  obtain ⟨z, hz⟩ : ∃ z, gt H.csr 0 = z := ⟨_, rfl⟩
  have HZ : Hid (gt H.csr 0 = z) := hz
  rw [hz] at d17 t2 h0 h1
  clear hz hc hv
  go_enter Tryd.func32, Tryd.ntmps32
  go_wp2_with fail
  generalize w.setCell ⟨m, 16, none⟩ (.int .i64 (gt H.csr 2)) = W at *
  clear c16 f16 c19
  go_region
  all_goals go_wp2_with fail
  all_goals go_end0
  all_goals exact ⟨rfl, by have := HV1.out.set (17 + 0) (.int .i64 (2 + z / 2)); rw [mca_set { H with pc := gt H.csr 2 } i o 0 (2 + z / 2) (by decide) HC.out, ← HZ.out] at this; rw [← HZ.out]; exact this, (MQ1.out.set ⟨m, 17, none⟩ _ rfl).dr⟩

set_option maxRecDepth 20000 in
set_option maxHeartbeats 8000000 in
theorem i_leave (m : Nat) (i o : Value) (H : Ht) (k x : Int) (w : World) (hv : Vb w m (mca H i o) 56) (hc : H.csr.length = 11) (h0 : 0 ≤ gt H.csr 0) (h1 : gt H.csr 0 ≤ 3) :
    Calls Tryd.prog 45 #[.pointer (some ⟨m, 0, none⟩), .int .i64 k, .int .i64 x] w fun e w' => e = .returned (.tuple #[]) ∧ Vb w' m (mca { trapV H k x with waiting := H.waiting } i o) 56 ∧ Mq (fun j => j = m) w w' := by
  have HC : Hid (H.csr.length = 11) := hc
  have HV : Hid (Vb w m (mca H i o) 56) := hv
  have c16 : w.cell? ⟨m, 16, none⟩ = some (.int .i64 H.pc) := hv.cell 16 rfl
  have c19 := hv.cell 19 rfl
  have f19 := hv.free 19
  have t2 : (gt H.csr 0).tmod 2 = gt H.csr 0 % 2 := Int.tmod_eq_emod_of_nonneg h0
  obtain ⟨z, hz⟩ : ∃ z, gt H.csr 0 = z := ⟨_, rfl⟩
  have HZ : Hid (gt H.csr 0 = z) := hz
  rw [hz] at t2 h0 h1
  obtain ⟨pcv, hpc⟩ : ∃ z, H.pc = z := ⟨_, rfl⟩
  rw [hpc] at c16
  have HPC : Hid (H.pc = pcv) := hpc
  clear hz hc hv hpc
  go_enter Tryd.func45, Tryd.ntmps45
  go_wp2_with fail
  go_region
  have V1 : Hid (Vb (w.setCell ⟨m, 19, none⟩ (.int .i64 pcv)).drew m (mca { H with csr := H.csr.set 2 pcv } i o) 56) := by
    show Vb _ _ _ _
    have := HV.out.set (17 + 2) (.int .i64 pcv); rw [mca_set H i o 2 pcv (by decide) HC.out] at this; exact this
  have M1 : Hid (Mq (fun j => j = m) w (w.setCell ⟨m, 19, none⟩ (.int .i64 pcv)).drew) := ((Mq.refl (fun j => j = m) w).set ⟨m, 19, none⟩ _ rfl).dr
  generalize (w.setCell ⟨m, 19, none⟩ (.int .i64 pcv)).drew = W1 at *
  clear c16 c19 f19
  have V2 : Hid (Vb (W1.setCell ⟨m, 20, none⟩ (.int .i64 k)) m (mca { H with csr := (H.csr.set 2 pcv).set 3 k } i o) 56) := by
    show Vb _ _ _ _
    have := V1.out.set (17 + 3) (.int .i64 k); rw [mca_set _ i o 3 k (by decide) (by simpa using HC.out)] at this; exact this
  have V3 : Hid (Vb ((W1.setCell ⟨m, 20, none⟩ (.int .i64 k)).setCell ⟨m, 21, none⟩ (.int .i64 x)) m (mca { H with csr := ((H.csr.set 2 pcv).set 3 k).set 4 x } i o) 56) := by
    show Vb _ _ _ _
    have := V2.out.set (17 + 4) (.int .i64 x); rw [mca_set _ i o 4 x (by decide) (by simpa using HC.out)] at this; exact this
  have M3 : Hid (Mq (fun j => j = m) w ((W1.setCell ⟨m, 20, none⟩ (.int .i64 k)).setCell ⟨m, 21, none⟩ (.int .i64 x))) := (M1.out.set ⟨m, 20, none⟩ _ rfl).set ⟨m, 21, none⟩ _ rfl
  have c20 := V1.out.cell 20 rfl
  have f20 := V1.out.free 20
  have c21 := V1.out.cell 21 rfl
  have f21 := V1.out.free 21
  go_wp2_with fail
  generalize (W1.setCell ⟨m, 20, none⟩ (.int .i64 k)).setCell ⟨m, 21, none⟩ (.int .i64 x) = W3 at *
  clear c20 f20 c21 f21
  have GZ : Hid (gt (((H.csr.set 2 pcv).set 3 k).set 4 x) 0 = z ∧ gt (((H.csr.set 2 pcv).set 3 k).set 4 x) 1 = gt H.csr 1) := by
    have := HC.out
    refine ⟨?_, ?_⟩
    · rw [gt_set _ _ _ _ (by simpa using by omega), if_neg (by decide), gt_set _ _ _ _ (by simpa using by omega), if_neg (by decide), gt_set _ _ _ _ (by omega), if_neg (by decide)]; exact HZ.out
    · rw [gt_set _ _ _ _ (by simpa using by omega), if_neg (by decide), gt_set _ _ _ _ (by simpa using by omega), if_neg (by decide), gt_set _ _ _ _ (by omega), if_neg (by decide)]
  have c17 : W3.cell? ⟨m, 17, none⟩ = some (.int .i64 z) := by have := V3.out.cell 17 rfl; rw [← GZ.out.1]; exact this
  have f17 := V3.out.free 17
  go_region
  have V4 : Hid (Vb (W3.setCell ⟨m, 17, none⟩ (.int .i64 (z % 2 * 2))).drew m (mca { H with csr := (((H.csr.set 2 pcv).set 3 k).set 4 x).set 0 (z % 2 * 2) } i o) 56) := by
    show Vb _ _ _ _
    have := V3.out.set (17 + 0) (.int .i64 (z % 2 * 2)); rw [mca_set _ i o 0 (z % 2 * 2) (by decide) (by simpa using HC.out)] at this; exact this
  have M4 : Hid (Mq (fun j => j = m) w (W3.setCell ⟨m, 17, none⟩ (.int .i64 (z % 2 * 2))).drew) := (M3.out.set ⟨m, 17, none⟩ _ rfl).dr
  generalize (W3.setCell ⟨m, 17, none⟩ (.int .i64 (z % 2 * 2))).drew = W4 at *
  clear c17 f17
  have c18 : W4.cell? ⟨m, 18, none⟩ = some (.int .i64 (gt H.csr 1)) := by
    have := V4.out.cell 18 rfl
    rw [← GZ.out.2]
    have e := gt_set (((H.csr.set 2 pcv).set 3 k).set 4 x) 0 1 (z % 2 * 2) (by have := HC.out; simp; omega)
    rw [if_neg (by decide)] at e
    rw [← e]
    exact this
  have c16 := V4.out.cell 16 rfl
  have f16 := V4.out.free 16
  go_wp2_with fail
  go_end0
  exact ⟨rfl, by have := V4.out.set 16 (.int .i64 (gt H.csr 1)); rw [mca_pc, ← HPC.out, ← HZ.out] at this; exact this, M4.out.set ⟨m, 16, none⟩ _ rfl⟩

set_option maxRecDepth 20000 in
set_option maxHeartbeats 8000000 in
theorem i_trap (m : Nat) (i o : Value) (H : Ht) (k x : Int) (w : World) (hv : Vb w m (mca H i o) 56) (hc : H.csr.length = 11) (h0 : 0 ≤ gt H.csr 0) (h1 : gt H.csr 0 ≤ 3) :
    Calls Tryd.prog 25 #[.pointer (some ⟨m, 0, none⟩), .int .i64 k, .int .i64 x] w fun e w' => e = .returned (.tuple #[]) ∧ Vb w' m (mca (trapV H k x) i o) 56 ∧ Mq (fun j => j = m) w w' := by
  have HV : Hid (Vb w m (mca H i o) 56) := hv
  have HC : Hid (H.csr.length = 11 ∧ 0 ≤ gt H.csr 0 ∧ gt H.csr 0 ≤ 3) := ⟨hc, h0, h1⟩
  clear hv hc h0 h1
  go_enter Tryd.func25, Tryd.ntmps25
  go_wp2_with fail
  refine (i_leave m i o H k x _ HV.out HC.out.1 HC.out.2.1 HC.out.2.2).mono ?_
  rintro e w1 ⟨rfl, v1, m1⟩
  have V1 : Hid (Vb w1 m _ _) := v1
  have M1 : Hid (Mq _ w w1) := m1
  have c29 := V1.out.cell 29 rfl
  have f29 := V1.out.free 29
  clear v1 m1
  go_wp2_with fail
  go_end0
  exact ⟨rfl, V1.out.set 29 (.bool false), M1.out.set ⟨m, 29, none⟩ _ rfl⟩
end Go.Proofs.YtaajaikpkcgalaaDoor
