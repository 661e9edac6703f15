/- Texts of this seat, joined. -/
import Derived.Deep.RegionWith
import Derived.Deep.RegionHeld3
import Derived.Deep.Cut
import Derived.Deep.CutRange
import Derived.Test.YtmgninipaigjfaaGreatDoorQ04
import Derived.Test.YtmgninipaigjfaaGreatDoorQ16
import Derived.Test.YtmgninipaigjfaaGreatDoorQ28
import Derived.Test.YtmgninipaigjfaaGreatDoorQ46
namespace Go.Proofs.YtmgninipaigjfaaGreatDoor
open Go.RowKit
set_option linter.unusedVariables false

/-- A variable of two cells. -/
def C2 (w : World) (s : Nat) (a b : Value) : Prop := w.cell? ⟨s, 0, none⟩ = some a ∧ w.cell? ⟨s, 1, none⟩ = some b
theorem C2.keep {w w' : World} {s : Nat} {a b : Value} (h : C2 w s a b) (k : Below w.heap.size w w') : C2 w' s a b := ⟨cell_keep k h.1, cell_keep k h.2⟩
theorem C2.mk {w w' : World} {s lo hi : Nat} {a b : Value} (h : C2 w s a b) (m : Mk lo hi w w') (hp : s < lo ∨ hi ≤ s) : C2 w' s a b := ⟨m.cell h.1 hp, m.cell h.2 hp⟩
theorem C2.grown {w w' : World} {s : Nat} {a b : Value} {row : Option Nat} (h : C2 w s a b) (g : w.grownBy w' row) (hn : some s ≠ row) : C2 w' s a b := ⟨cell_grown g h.1 hn, cell_grown g h.2 hn⟩
theorem C2.new (w : World) (a b : Value) (t : TypeId) : C2 (w.alloc (.cells #[a, b] t)) w.heap.size a b := ⟨cell_new rfl, cell_new rfl⟩
theorem C2.lt {w : World} {s : Nat} {a b : Value} (h : C2 w s a b) : s < w.heap.size := block_of_cell h.1
/-- A variable of four cells. -/
def C4 (w : World) (s : Nat) (a b c d : Value) : Prop := w.cell? ⟨s, 0, none⟩ = some a ∧ w.cell? ⟨s, 1, none⟩ = some b ∧ w.cell? ⟨s, 2, none⟩ = some c ∧ w.cell? ⟨s, 3, none⟩ = some d
theorem C4.keep {w w' : World} {s : Nat} {a b c d : Value} (h : C4 w s a b c d) (k : Below w.heap.size w w') : C4 w' s a b c d := ⟨cell_keep k h.1, cell_keep k h.2.1, cell_keep k h.2.2.1, cell_keep k h.2.2.2⟩
theorem C4.mk {w w' : World} {s lo hi : Nat} {a b c d : Value} (h : C4 w s a b c d) (m : Mk lo hi w w') (hp : s < lo ∨ hi ≤ s) : C4 w' s a b c d := ⟨m.cell h.1 hp, m.cell h.2.1 hp, m.cell h.2.2.1 hp, m.cell h.2.2.2 hp⟩
theorem C4.grown {w w' : World} {s : Nat} {a b c d : Value} {row : Option Nat} (h : C4 w s a b c d) (g : w.grownBy w' row) (hn : some s ≠ row) : C4 w' s a b c d := ⟨cell_grown g h.1 hn, cell_grown g h.2.1 hn, cell_grown g h.2.2.1 hn, cell_grown g h.2.2.2 hn⟩
theorem C4.new (w : World) (a b c d : Value) (t : TypeId) : C4 (w.alloc (.cells #[a, b, c, d] t)) w.heap.size a b c d := ⟨cell_new rfl, cell_new rfl, cell_new rfl, cell_new rfl⟩
theorem C4.lt {w : World} {s : Nat} {a b c d : Value} (h : C4 w s a b c d) : s < w.heap.size := block_of_cell h.1
end Go.Proofs.YtmgninipaigjfaaGreatDoor
namespace Go.Proofs.YtmgninipaigjfaaGreatDoor
open Go.RowKit
set_option linter.unusedVariables false

theorem imgC_len (own iss : List (List Int)) (h : ¬ iss.length = own.length) : imgC own iss = 2 := by rw [imgC, if_neg h]
theorem imgC_bad (own iss : List (List Int)) (h : iss.length = own.length) (j : Nat) (hj : j < iss.length) (hb : badAt own iss j = true) : imgC own iss = 8 := by rw [imgC, if_pos h, sizes_bad own iss j hb _ hj]
theorem imgC_good (own iss : List (List Int)) (h : iss.length = own.length) (hb : ∀ j, j < iss.length → badAt own iss j = false) : imgC own iss = 0 := by rw [imgC, if_pos h, sizes_good own iss _ hb]
theorem imgC_ok (own iss : List (List Int)) (h : imgC own iss = 0) : iss.length = own.length ∧ ∀ j, j < iss.length → (iss.getD j []).length ≤ (own.getD j []).length * 8 := by
  unfold imgC at h
  split at h
  · rename_i h1
    refine ⟨h1, fun j hj => ?_⟩
    have := sizes_all own iss _ h j hj
    unfold badAt at this
    have := of_decide_eq_false this
    omega
  · cases h
theorem bad_iff (own iss : List (List Int)) (j : Nat) : badAt own iss j = decide ((own.getD j []).length * 8 < (iss.getD j []).length) := rfl

set_option maxRecDepth 20000 in
set_option maxHeartbeats 4000000 in
theorem l7_images (q : Nat) (P : Plc) (ai : Option Addr) (ni ci : Nat) (iss : List (List Int)) (w : World) (h : PolAt w q P) (hi : IsS2 w ai ni ci iss) (hp : pfV P = 0) :
    Calls Tryz.prog 68 #[.pointer (some ⟨q, 0, none⟩), .slice ai ni ci] w fun e w' => e = .returned (.int .i64 (imgC P.own iss)) ∧ Below w.heap.size w w' := by
  obtain ⟨a0, n0, c0, a1, n1, c1, a2, n2, c2, a3, n3, c3, h0, h1, h2, h3, h4⟩ := h
  have H0 : Hid (w.cell? ⟨q, 0, none⟩ = some (.slice a0 n0 c0)) := h0
  have HO : Hid (IsS2 w a0 n0 c0 P.own) := h4.own
  have HI : Hid (IsS2 w ai ni ci iss) := hi
  have HL0 : Hid (n0 = P.own.length) := h4.own.len
  have HLI : Hid (ni = iss.length) := hi.len
  have hn0 : (n0 : Int) ≤ 3 := by have := h4.own.len; have := (pf_parts P hp).1; omega
  have hniM : (ni : Int) ≤ 9223372036854775807 := by have := hi.cap; unfold maxLen at this; omega
  have OW : Hid (∀ j, j < n0 → (P.own.getD j []).length ≤ 5) := fun j hj => (pf_own P hp j (by have := HL0.out; omega)).2.1
  clear h1 h2 h3 h4 hi hp
  by_cases hne : ni = n0
  case neg =>
    have V : Hid (imgC P.own iss = 2) := imgC_len _ _ (by have := HL0.out; have := HLI.out; omega)
    have hneI : ¬ (ni : Int) = (n0 : Int) := by omega
    go_enter Tryz.func68, Tryz.ntmps68
    go_wp2_with fail
    go_ret
    rw [V.out]
    exact ⟨rfl, Below.refl _ _⟩
  have HEQ : Hid (iss.length = P.own.length) := by show _ = _; have := HL0.out; have := HLI.out; omega
  subst hne
  go_enter Tryz.func68, Tryz.ntmps68
  go_wp2_with fail
  clear h0
  go_loopw [5] (fun c wr => ∃ j : Nat, j ≤ ni ∧ c = .int .i64 j ∧ Below w.heap.size w wr ∧ Hid (∀ i, i < j → badAt P.own iss i = false)) (fun c _ => ni - (intOf c).toNat)
  case atStart => exact ⟨0, Nat.zero_le _, rfl, Below.refl _ _, fun i hi => absurd hi (Nat.not_lt_zero _)⟩
  case round =>
    obtain ⟨j, hj, rfl, hB, hI⟩ := hrel
    have HB : Hid (Below _ w wr) := hB
    by_cases hlt : j < ni
    · obtain ⟨x, b, l, c, rfl, k1, k2⟩ := (HO.out.stay hB).at j hlt
      obtain ⟨y, b2, l2, c2, rfl, m1, m2⟩ := (HI.out.stay hB).at j hlt
      have h0 := cell_keep hB H0.out
      have hJ : (j : Int) < (ni : Int) := by omega
      have HLT : Hid (j < ni) := hlt
      have E1 : Hid (l = (P.own.getD j []).length) := k2.len
      have E2 : Hid (l2 = (iss.getD j []).length) := m2.len
      have hl5 : (l : Int) ≤ 5 := by have := k2.len; have := OW.out j hlt; omega
      have hl2M : (l2 : Int) ≤ 9223372036854775807 := by have := m2.cap; unfold maxLen at this; omega
      have BD : Hid (badAt P.own iss j = decide (l * 8 < l2)) := by show _ = _; rw [bad_iff, ← E1.out, ← E2.out]
      clear k2 m2 hB hlt
      have hw : IntKind.i64.wrap ((l : Int) * 8) = (l : Int) * 8 := by rw [IntKind.wrap_i64]; omega
      by_cases hb : l * 8 < l2
      · have hbI : (l : Int) * 8 < (l2 : Int) := by omega
        have V : Hid (imgC P.own iss = 8) := imgC_bad _ _ HEQ.out j (by have := HLT.out; have := HLI.out; omega) (by rw [BD.out]; exact decide_eq_true hb)
        clear hb BD
        go_wp2_with fail
        go_quiet (fail)
        go_wp2_with fail
        go_ret
        rw [V.out]
        exact ⟨rfl, dr HB.out _⟩
      · have hbI : ¬ (l : Int) * 8 < (l2 : Int) := by omega
        have S2 : Hid (∀ i, i < j + 1 → badAt P.own iss i = false) := fun i hi => by
          rcases Nat.lt_or_ge i j with h | h
          · exact hI.out i h
          · obtain rfl : i = j := by omega
            rw [BD.out]
            exact decide_eq_false hb
        clear hb BD
        go_wp2_with fail
        go_quiet (fail)
        go_wp2_with fail
        go_roundw
        case rel => exact ⟨j + 1, by have := HLT.out; omega, by go_num, dr HB.out _, S2⟩
        case measure => have := HLT.out; simp [intOf]; omega
    · have hJ : ¬ (j : Int) < (ni : Int) := by omega
      have V : Hid (imgC P.own iss = 0) := imgC_good _ _ HEQ.out (fun i hi => hI.out i (by have := HLI.out; omega))
      clear hlt hB
      go_wp2_with fail
      go_ret
      rw [V.out]
      exact ⟨rfl, HB.out⟩

set_option maxRecDepth 20000 in
set_option maxHeartbeats 8000000 in
theorem l7_load (q : Nat) (P : Plc) (ai : Option Addr) (ni ci : Nat) (iss : List (List Int)) (w : World) (h : PolAt w q P) (hi : IsS2 w ai ni ci iss) (hp : pfV P = 0) (hc : imgC P.own iss = 0) :
    Calls Tryz.prog 69 #[.pointer (some ⟨q, 0, none⟩), .slice ai ni ci] w fun e w' => ∃ v, e = .returned v ∧ Nums w' w.heap.size v (allM P.own iss (List.replicate 192 0) iss.length) ∧ Below w.heap.size w w' := by
  obtain ⟨i0, hi0, hz0, hz1, hz2⟩ := info_parts info_i64
  obtain ⟨a0, n0, c0, a1, n1, c1, a2, n2, c2, a3, n3, c3, h0, h1, h2, h3, h4⟩ := h
  have H0 : Hid (w.cell? ⟨q, 0, none⟩ = some (.slice a0 n0 c0)) := h0
  have HO : Hid (IsS2 w a0 n0 c0 P.own) := h4.own
  have HI : Hid (IsS2 w ai ni ci iss) := hi
  have HL0 : Hid (n0 = P.own.length) := h4.own.len
  have HLI : Hid (ni = iss.length) := hi.len
  have hn0 : (n0 : Int) ≤ 3 := by have := h4.own.len; have := (pf_parts P hp).1; omega
  have HNN : Hid (ni = n0) := by show _ = _; have := HL0.out; have := HLI.out; have := (imgC_ok _ _ hc).1; omega
  have hniI : (ni : Int) ≤ 3 := by have := HNN.out; omega
  have OW : Hid (∀ j, j < n0 → (P.own.getD j []).length ≤ 5 ∧ ∀ x ∈ P.own.getD j [], 0 ≤ x ∧ x ≤ 23) := fun j hj => (pf_own P hp j (by have := HL0.out; omega)).2
  have IL : Hid (∀ j, j < ni → (iss.getD j []).length ≤ (P.own.getD j []).length * 8) := fun j hj => (imgC_ok _ _ hc).2 j (by have := HLI.out; omega)
  have AL : Hid (∀ j, (allM P.own iss (List.replicate 192 0) j).length = 192) := fun j => by rw [allM_len, List.length_replicate]
  have AS : Hid (∀ j, allM P.own iss (List.replicate 192 0) (j + 1) = layM (P.own.getD j []) (iss.getD j []) (allM P.own iss (List.replicate 192 0) j) (iss.getD j []).length) := fun _ => rfl
  have A0 : Hid (allM P.own iss (List.replicate 192 0) 0 = List.replicate 192 0) := rfl
  generalize allM P.own iss (List.replicate 192 0) = A at *
  clear h0 h1 h2 h3 h4 hi hp hc
  go_enter Tryz.func69, Tryz.ntmps69
  go_wp2_with (at_make; refine wpList_make_full _ rfl _ _ 28 rfl w.heap.size 2 i0 _ 1 Tryz.underlying28 hi0 hz0 hz1 _ _ _ _ 192 rfl rfl rfl rfl (by rw [hz2]; omega) (by unfold maxLen; omega) (Nat.le_refl _) ?_; intro w1 hown hgrow)
  have N1 : Hid (Nums w1 w.heap.size (.slice (some ⟨w.heap.size, 0, none⟩) 192 192) (List.replicate 192 0)) := Nums.made hown (by rw [Nat.mul_one, show (Value.int .i64 0).cells = #[.int .i64 0] from rfl, toList_madeCells_one, List.map_replicate])
  have B1 : Hid (Below w.heap.size w w1) := (Below.refl _ _).grown hgrow (Nat.le_refl _) (by simp)
  clear hown hgrow hi0 hz0 hz1 hz2
  go_wp2_with fail
  go_loopw [6, 7, 8] (fun c _ _ wr => ∃ j : Nat, j ≤ ni ∧ c = .int .i64 j ∧ Nums wr w.heap.size (.slice (some ⟨w.heap.size, 0, none⟩) 192 192) (A j) ∧ Below w.heap.size w wr) (fun c _ _ _ => ni - (intOf c).toNat)
  case atStart => exact ⟨0, Nat.zero_le _, rfl, by rw [A0.out]; exact N1.out, B1.out⟩
  case round =>
    obtain ⟨j, hj, rfl, hN, hB⟩ := hrel
    have HN : Hid (Nums wr _ _ (A j)) := hN
    have HB : Hid (Below _ w wr) := hB
    by_cases hlt : j < ni
    · have hltn : j < n0 := by have := HNN.out; omega
      obtain ⟨x, b, l, c, rfl, k1, k2⟩ := HO.out.at j hltn
      obtain ⟨y, b2, l2, c2, rfl, m1, m2⟩ := HI.out.at j hlt
      have hJ : (j : Int) < (ni : Int) := by omega
      have hJ0 : (j : Int) < (n0 : Int) := by omega
      have HLT : Hid (j < ni) := hlt
      have K1 : Hid (w.cell? (x.add j) = some (.slice b l c)) := k1
      have MM1 : Hid (w.cell? (y.add j) = some (.slice b2 l2 c2)) := m1
      have HOW : Hid (IsNs w b l c (P.own.getD j [])) := k2
      have HIM : Hid (IsNs w b2 l2 c2 (iss.getD j [])) := m2
      have E1 : Hid (l = (P.own.getD j []).length ∧ l ≤ 5) := ⟨k2.len, by have := k2.len; have := (OW.out j hltn).1; omega⟩
      have E2 : Hid (l2 = (iss.getD j []).length ∧ l2 ≤ l * 8) := ⟨m2.len, by have := m2.len; have := k2.len; have := IL.out j hlt; omega⟩
      have hl5 : (l : Int) ≤ 5 := by have := E1.out.2; omega
      have hl2 : (l2 : Int) ≤ 40 := by have := E1.out.2; have := E2.out.2; omega
      have RN : Hid (∀ x ∈ P.own.getD j [], 0 ≤ x ∧ x ≤ 23) := (OW.out j hltn).2
      have A1 : Hid (A (j + 1) = layM (P.own.getD j []) (iss.getD j []) (A j) l2) := by show _ = _; rw [AS.out, ← E2.out.1]
      have ML : Hid (∀ i, (layM (P.own.getD j []) (iss.getD j []) (A j) i).length = 192) := fun i => by rw [layM_len]; exact AL.out j
      have MS : Hid (∀ i, layM (P.own.getD j []) (iss.getD j []) (A j) (i + 1) = (layM (P.own.getD j []) (iss.getD j []) (A j) i).set (((P.own.getD j []).getD (i / 8) 0).toNat * 8 + i % 8) (wd ((iss.getD j []).getD i 0))) := fun _ => rfl
      have M0 : Hid (layM (P.own.getD j []) (iss.getD j []) (A j) 0 = A j) := rfl
      generalize layM (P.own.getD j []) (iss.getD j []) (A j) = M at *
      generalize P.own.getD j [] = ow at *
      generalize iss.getD j [] = img at *
      have m1 := cell_keep hB MM1.out
      clear k1 k2 m2 hN hB hlt hltn
      go_wp2_with fail
      clear m1
      go_loopw [7, 8] (fun c _ wq => ∃ k : Nat, k ≤ l2 ∧ c = .int .i64 k ∧ Nums wq w.heap.size (.slice (some ⟨w.heap.size, 0, none⟩) 192 192) (M k) ∧ Below w.heap.size w wq) (fun c _ _ => l2 - (intOf c).toNat)
      case atStart => exact ⟨0, Nat.zero_le _, rfl, by rw [M0.out]; exact HN.out, HB.out⟩
      case round =>
        clear HN HB
        obtain ⟨k, hk, rfl, hN, hB⟩ := hrel
        have HN : Hid (Nums wr _ _ (M k)) := hN
        have HB : Hid (Below _ w wr) := hB
        have m1 := cell_keep hB MM1.out
        by_cases hks : k < l2
        · have h0 := cell_keep hB H0.out
          have k1 := cell_keep hB K1.out
          have HK : Hid (k < l2) := hks
          have hK : (k : Int) < (l2 : Int) := by omega
          rcases HOW.out.stay hB with ⟨_, e1, _, _⟩ | ⟨yo, rfl, e1, e2, e3, e4⟩
          · have := E2.out.2; omega
          rcases HIM.out.stay hB with ⟨_, f1, _, _⟩ | ⟨yi, rfl, f1, f2, f3, f4⟩
          · omega
          have hk8 : k / 8 < l := by have := E2.out.2; omega
          have d0 := e4 (k / 8) hk8
          have g0 := f4 k hks
          have hin := RN.out _ (getD_mem ow 0 (k / 8) (by have := E1.out.1; omega))
          have MS2 := MS.out k
          obtain ⟨z, hz⟩ : ∃ z, ow.getD (k / 8) 0 = z := ⟨_, rfl⟩
          rw [hz] at d0 hin MS2
          clear hz
          obtain ⟨p, rfl⟩ := Int.eq_ofNat_of_zero_le hin.1
          rw [Int.toNat_natCast] at MS2
          generalize img.getD k 0 = xv at *
          obtain ⟨kd, hkd⟩ : ∃ kd, k / 8 = kd := ⟨_, rfl⟩
          obtain ⟨km, hkm⟩ : ∃ km, k % 8 = km := ⟨_, rfl⟩
          obtain ⟨at0, hat⟩ : ∃ at0, p * 8 + km = at0 := ⟨_, rfl⟩
          rw [hkm, hat] at MS2
          rw [hkd] at d0 hk8
          have hA192 : at0 < 192 := by omega
          have hA : (at0 : Int) < 192 := by omega
          have hkdI : (kd : Int) < (l : Int) := by omega
          have td : Int.tdiv (k : Int) 8 = (kd : Int) := by rw [← hkd]; simp
          have tm : Int.tmod (k : Int) 8 = (km : Int) := by rw [← hkm, Int.tmod_eq_emod_of_nonneg (by omega)]; omega
          have hadd : (p : Int) * 8 + (km : Int) = (at0 : Int) := by omega
          have hpI : (p : Int) ≤ 23 := by omega
          have hmI : (km : Int) < 8 := by omega
          have c0 := hN.cell (by rw [ML.out]) at0 hA192
          have fz := hN.free (by rw [ML.out]) at0
          have S2 : Hid (M (k + 1) = (M k).set at0 (wd xv)) := MS2
          have ST : Hid (Nums (wr.setCell ⟨w.heap.size, at0, none⟩ (.int .i64 (wd xv))) w.heap.size (.slice (some ⟨w.heap.size, 0, none⟩) 192 192) (M (k + 1))) := by
            have := (hN.store at0 (wd xv)).1
            rw [← MS2] at this
            exact this
          generalize (M k).getD at0 0 = oldv at *
          clear e1 e2 e3 e4 f1 f2 f3 f4 hin MS2 hkd hkm hat hks hN hB hA192 hk8
          go_wp2_with (go_at_call 88; refine (spec_wrap7 _ _).mono ?_; rintro e w9 ⟨rfl, hw9⟩; subst hw9)
          go_roundw
          case rel => exact ⟨k + 1, by have := HK.out; omega, by go_num, ST.out, HB.out.setCell (by simp) _⟩
          case measure => have := HK.out; simp [intOf]; omega
        · have hK : ¬ (k : Int) < (l2 : Int) := by omega
          have HK : Hid (k = l2) := by show _ = _; omega
          clear hN hB hks
          go_wp2_with fail
          go_roundw
          case rel => exact ⟨j + 1, by have := HLT.out; omega, by go_num, by rw [A1.out, ← HK.out]; exact HN.out, HB.out⟩
          case measure => have := HLT.out; simp [intOf]; omega
    · have hJ : ¬ (j : Int) < (ni : Int) := by omega
      have HJ : Hid (j = iss.length) := by show _ = _; have := HLI.out; omega
      clear hlt hN hB
      go_wp2_with fail
      go_ret
      refine ⟨_, rfl, ?_, HB.out⟩
      rw [← HJ.out]
      exact HN.out

set_option maxRecDepth 20000 in
set_option maxHeartbeats 8000000 in
theorem s_load (a0 a1 a2 a3 : Option Addr) (n0 c0 n1 c1 n2 c2 n3 c3 : Nat) (P : Plc) (ai : Option Addr) (ni ci : Nat) (iss : List (List Int)) (w : World) (h : Pl w a0 n0 c0 a1 n1 c1 a2 n2 c2 a3 n3 c3 P) (hi : IsS2 w ai ni ci iss) :
    Calls Tryz.prog 43 #[.agg #[.slice a0 n0 c0, .slice a1 n1 c1, .slice a2 n2 c2, .slice a3 n3 c3], .slice ai ni ci] w fun e w' => ∃ v, e = .returned (.agg #[.int .i64 (loadC P iss), v]) ∧ Nums w' w.heap.size v (loadZ P iss) ∧ Below w.heap.size w w' := by
  generalize hW : ((w.alloc (.cells #[.slice a0 n0 c0, .slice a1 n1 c1, .slice a2 n2 c2, .slice a3 n3 c3] 35))).alloc (.cells #[.int .i64 0, .slice none 0 0] 75) = W
  have B0 : Hid (Below w.heap.size w W) := by show Below _ _ _; rw [← hW]; exact al (al (Below.refl _ _) _) _
  obtain ⟨s, hS⟩ : ∃ s, w.heap.size = s := ⟨_, rfl⟩
  have HSs : Hid (w.heap.size = s) := hS
  have Q : Hid (W.cell? ⟨s, 0, none⟩ = some (.slice a0 n0 c0) ∧ W.cell? ⟨s, 1, none⟩ = some (.slice a1 n1 c1) ∧ W.cell? ⟨s, 2, none⟩ = some (.slice a2 n2 c2) ∧ W.cell? ⟨s, 3, none⟩ = some (.slice a3 n3 c3)) := by
    show _ ∧ _
    rw [← hW, ← hS]
    exact ⟨cell_push _ (cell_new rfl), cell_push _ (cell_new rfl), cell_push _ (cell_new rfl), cell_push _ (cell_new rfl)⟩
  have R : Hid (RsI W s) := by
    have z1 : s + 1 = ((w.alloc (.cells #[.slice a0 n0 c0, .slice a1 n1 c1, .slice a2 n2 c2, .slice a3 n3 c3] 35))).heap.size := by rw [← hS]; simp
    show RsI W s
    unfold RsI
    rw [← hW, z1]
    exact ⟨cell_new rfl, cell_new rfl, fz_new _ _ _ _, fz_new _ _ _ _, by simp⟩
  have HP : Hid (Pl W a0 n0 c0 a1 n1 c1 a2 n2 c2 a3 n3 c3 P) := h.stay B0.out
  have HA : Hid (PolAt W s P) := ⟨_, _, _, _, _, _, _, _, _, _, _, _, Q.out.1, Q.out.2.1, Q.out.2.2.1, Q.out.2.2.2, HP.out⟩
  have HI : Hid (IsS2 W ai ni ci iss) := hi.stay B0.out
  clear h hi
  have q0 := Q.out.1
  have q1 := Q.out.2.1
  have q2 := Q.out.2.2.1
  have q3 := Q.out.2.2.2
  go_enter Tryz.func43, Tryz.ntmps43
  go_wp2_with fail
  clear hW hS
  refine (l6_fault _ P _ HA.out).mono ?_
  rintro e w1 ⟨rfl, b1⟩
  have BX : Hid (Below w.heap.size w w1) := on B0.out b1
  have R1 : Hid (RsI w1 s) := R.out.keep b1
  obtain ⟨r0, r1, f0, f1, lt⟩ := R1.out
  have Q1 : Hid (w1.cell? ⟨s, 0, none⟩ = some (.slice a0 n0 c0)) := cell_keep b1 Q.out.1
  have HPw : Hid (Pl w1 a0 n0 c0 a1 n1 c1 a2 n2 c2 a3 n3 c3 P) := HP.out.stay b1
  have HAw : Hid (PolAt w1 s P) := HA.out.stay b1
  have HIw : Hid (IsS2 w1 ai ni ci iss) := HI.out.stay b1
  clear b1 q0 q1 q2 q3
  by_cases hz : pfV P = 0
  case neg =>
    have CV : Hid (loadC P iss = pfV P) := by show _ = _; rw [loadC, if_neg hz]
    have ZV : Hid (loadZ P iss = []) := by show _ = _; rw [loadZ, if_neg (by rw [CV.out]; exact hz)]
    generalize hv : pfV P = v at *
    go_wp2_with fail
    exact bodyPost_ret (v := .agg #[.int .i64 v, .slice none 0 0]) (by simp [results, Tryz.results43, go_sem, r0, r1]) rfl ⟨.slice none 0 0, by rw [CV.out], by rw [ZV.out]; exact Nums.nil _ _, (BX.out.setCell (by have := HSs.out; show w.heap.size ≤ s + 1; omega) _).setCell (by have := HSs.out; show w.heap.size ≤ s + 1; omega) _⟩
  have PZ : Hid (pfV P = 0) := hz
  have CE : Hid (loadC P iss = imgC P.own iss) := by show _ = _; rw [loadC, if_pos hz]
  rw [hz]
  clear hz
  go_wp2_with fail
  refine (l7_images _ P _ _ _ _ _ HAw.out HIw.out PZ.out).mono ?_
  rintro e w2 ⟨rfl, b2⟩
  have HBJ : Hid (Below w1.heap.size w1 w2) := b2
  by_cases hc : imgC P.own iss = 0
  case neg =>
    have CV : Hid (loadC P iss = imgC P.own iss) := CE
    have ZV : Hid (loadZ P iss = []) := by show _ = _; rw [loadZ, if_neg (by rw [CV.out]; exact hc)]
    obtain ⟨r0, r1, f0, f1, lt⟩ := R1.out.keep b2
    have BX : Hid (Below w.heap.size w w2) := on BX.out b2
    clear b2
    generalize hv : imgC P.own iss = v at *
    go_wp2_with fail
    exact bodyPost_ret (v := .agg #[.int .i64 v, .slice none 0 0]) (by simp [results, Tryz.results43, go_sem, r0, r1]) rfl ⟨.slice none 0 0, by rw [CV.out], by rw [ZV.out]; exact Nums.nil _ _, (BX.out.setCell (by have := HSs.out; show w.heap.size ≤ s + 1; omega) _).setCell (by have := HSs.out; show w.heap.size ≤ s + 1; omega) _⟩
  have CV : Hid (loadC P iss = 0) := by show _ = _; rw [CE.out, hc]
  have ZV : Hid (loadZ P iss = allM P.own iss (List.replicate 192 0) iss.length) := by show _ = _; rw [loadZ, if_pos CV.out]
  have CZ : Hid (imgC P.own iss = 0) := hc
  rw [hc]
  have HA2 : Hid (PolAt w2 s P) := HAw.out.stay b2
  have HI2 : Hid (IsS2 w2 ai ni ci iss) := HIw.out.stay b2
  clear hc b2
  go_wp2_with fail
  refine (l7_load _ P _ _ _ _ _ HA2.out HI2.out PZ.out CZ.out).mono ?_
  rintro e w3 ⟨v, rfl, n2', b3⟩
  have B3 : Hid (Below w.heap.size w w3) := on BX.out (on HBJ.out b3)
  have D3 : Hid (Below w1.heap.size w1 w3) := on HBJ.out b3
  obtain ⟨ya, yc, hv, _, _, _⟩ := n2'.shape
  have NN : Hid (Nums w3 w.heap.size v (allM P.own iss (List.replicate 192 0) iss.length)) := n2'.mono (Nat.le_trans BX.out.size HBJ.out.size)
  have NL : Hid (∀ k, v.ownBlock = some k → w1.heap.size ≤ k) := fun k e => Nat.le_trans HBJ.out.size (n2'.lt k e).1
  have LT : Hid (s + 1 < w1.heap.size) := R1.out.2.2.2.2
  generalize (allM P.own iss (List.replicate 192 0) iss.length).length = ln at hv
  subst hv
  obtain ⟨r0, r1, f0, f1, lt⟩ := R1.out.keep D3.out
  clear b3 n2'
  go_wp2_with fail
  refine bodyPost_ret (v := .agg #[.int .i64 0, .slice ya ln yc]) (by simp [results, Tryz.results43, go_sem, r0, r1]) rfl ⟨.slice ya ln yc, by rw [CV.out], ?_, (B3.out.setCell (by have := HSs.out; show w.heap.size ≤ s + 1; omega) _).setCell (by have := HSs.out; show w.heap.size ≤ s + 1; omega) _⟩
  have ne : (Value.slice ya ln yc).ownBlock ≠ some (s + 1) := fun e => by have := NL.out _ e; have := LT.out; omega
  rw [ZV.out]
  exact (NN.out.put ⟨s + 1, 0, none⟩ (.int .i64 0) ne).put ⟨s + 1, 1, none⟩ (.slice ya ln yc) ne

set_option maxRecDepth 20000 in
set_option maxHeartbeats 8000000 in
theorem i_load (a0 a1 a2 a3 : Option Addr) (n0 c0 n1 c1 n2 c2 n3 c3 : Nat) (P : Plc) (ai : Option Addr) (ni ci : Nat) (iss : List (List Int)) (w : World) (h : Pl w a0 n0 c0 a1 n1 c1 a2 n2 c2 a3 n3 c3 P) (hi : IsS2 w ai ni ci iss) (hg : w.cell? ⟨0, 0, none⟩ = some (.iface 165 (.agg #[.pointer (some ⟨1, 112, none⟩)]))) :
    Calls Tryz.prog 51 #[.agg #[.slice a0 n0 c0, .slice a1 n1 c1, .slice a2 n2 c2, .slice a3 n3 c3], .slice ai ni ci] w fun e w' => ∃ v, e = .returned (.agg #[.int .i64 (loadC P iss), v]) ∧ Nums w' w.heap.size v (loadZ P iss) ∧ Below w.heap.size w w' := by
  generalize hW : ((w.alloc (.cells #[.slice a0 n0 c0, .slice a1 n1 c1, .slice a2 n2 c2, .slice a3 n3 c3] 35))).alloc (.cells #[.int .i64 0, .slice none 0 0] 75) = W
  have B0 : Hid (Below w.heap.size w W) := by show Below _ _ _; rw [← hW]; exact al (al (Below.refl _ _) _) _
  obtain ⟨s, hS⟩ : ∃ s, w.heap.size = s := ⟨_, rfl⟩
  have HSs : Hid (w.heap.size = s) := hS
  have Q : Hid (W.cell? ⟨s, 0, none⟩ = some (.slice a0 n0 c0) ∧ W.cell? ⟨s, 1, none⟩ = some (.slice a1 n1 c1) ∧ W.cell? ⟨s, 2, none⟩ = some (.slice a2 n2 c2) ∧ W.cell? ⟨s, 3, none⟩ = some (.slice a3 n3 c3)) := by
    show _ ∧ _
    rw [← hW, ← hS]
    exact ⟨cell_push _ (cell_new rfl), cell_push _ (cell_new rfl), cell_push _ (cell_new rfl), cell_push _ (cell_new rfl)⟩
  have R : Hid (RsI W s) := by
    have z1 : s + 1 = ((w.alloc (.cells #[.slice a0 n0 c0, .slice a1 n1 c1, .slice a2 n2 c2, .slice a3 n3 c3] 35))).heap.size := by rw [← hS]; simp
    show RsI W s
    unfold RsI
    rw [← hW, z1]
    exact ⟨cell_new rfl, cell_new rfl, fz_new _ _ _ _, fz_new _ _ _ _, by simp⟩
  have HP : Hid (Pl W a0 n0 c0 a1 n1 c1 a2 n2 c2 a3 n3 c3 P) := h.stay B0.out
  have HA : Hid (PolAt W s P) := ⟨_, _, _, _, _, _, _, _, _, _, _, _, Q.out.1, Q.out.2.1, Q.out.2.2.1, Q.out.2.2.2, HP.out⟩
  have HI : Hid (IsS2 W ai ni ci iss) := hi.stay B0.out
  have HG : Hid (_ = _) := cell_keep B0.out hg
  clear h hg hi
  have q0 := Q.out.1
  have q1 := Q.out.2.1
  have q2 := Q.out.2.2.1
  have q3 := Q.out.2.2.2
  go_enter Tryz.func51, Tryz.ntmps51
  go_wp2_with fail
  clear hW hS
  refine (impl_policy _ _ _ _ _ _ _ _ _ _ _ _ P _ HP.out HG.out).mono ?_
  rintro e w1 ⟨rfl, b1⟩
  have BX : Hid (Below w.heap.size w w1) := on B0.out b1
  have R1 : Hid (RsI w1 s) := R.out.keep b1
  obtain ⟨r0, r1, f0, f1, lt⟩ := R1.out
  have Q1 : Hid (w1.cell? ⟨s, 0, none⟩ = some (.slice a0 n0 c0)) := cell_keep b1 Q.out.1
  have HPw : Hid (Pl w1 a0 n0 c0 a1 n1 c1 a2 n2 c2 a3 n3 c3 P) := HP.out.stay b1
  have HAw : Hid (PolAt w1 s P) := HA.out.stay b1
  have HIw : Hid (IsS2 w1 ai ni ci iss) := HI.out.stay b1
  clear b1 q0 q1 q2 q3
  by_cases hz : pfV P = 0
  case neg =>
    have CV : Hid (loadC P iss = pfV P) := by show _ = _; rw [loadC, if_neg hz]
    have ZV : Hid (loadZ P iss = []) := by show _ = _; rw [loadZ, if_neg (by rw [CV.out]; exact hz)]
    generalize hv : pfV P = v at *
    go_wp2_with fail
    exact bodyPost_ret (v := .agg #[.int .i64 v, .slice none 0 0]) (by simp [results, Tryz.results51, go_sem, r0, r1]) rfl ⟨.slice none 0 0, by rw [CV.out], by rw [ZV.out]; exact Nums.nil _ _, (BX.out.setCell (by have := HSs.out; show w.heap.size ≤ s + 1; omega) _).setCell (by have := HSs.out; show w.heap.size ≤ s + 1; omega) _⟩
  have PZ : Hid (pfV P = 0) := hz
  have CE : Hid (loadC P iss = imgC P.own iss) := by show _ = _; rw [loadC, if_pos hz]
  rw [hz]
  clear hz
  obtain ⟨i0, hi0, hz0, hz1, hz2⟩ := info_parts info_wpage
  have HL0 : Hid (n0 = P.own.length) := HPw.out.own.len
  have HLI : Hid (ni = iss.length) := HIw.out.len
  have hn0 : (n0 : Int) ≤ 3 := by have := HL0.out; have := (pf_parts P PZ.out).1; omega
  have hniM : (ni : Int) ≤ 9223372036854775807 := by have := HIw.out.cap; unfold maxLen at this; omega
  have OW : Hid (∀ j, j < n0 → (P.own.getD j []).length ≤ 5 ∧ ∀ x ∈ P.own.getD j [], 0 ≤ x ∧ x ≤ 23) := fun j hj => (pf_own P PZ.out j (by have := HL0.out; omega)).2
  have q0 := Q1.out
  by_cases hne : ni = n0
  case neg =>
    have CV : Hid (loadC P iss = 2) := by show _ = _; rw [CE.out]; exact imgC_len _ _ (by have := HL0.out; have := HLI.out; omega)
    have ZV : Hid (loadZ P iss = []) := by show _ = _; rw [loadZ, if_neg (by rw [CV.out]; decide)]
    have hneI : ¬ (ni : Int) = (n0 : Int) := by omega
    clear hi0 hz0 hz1 hz2
    go_wp2_with fail
    exact bodyPost_ret (v := .agg #[.int .i64 2, .slice none 0 0]) (by simp [results, Tryz.results51, go_sem, r0, r1]) rfl ⟨.slice none 0 0, by rw [CV.out], by rw [ZV.out]; exact Nums.nil _ _, (BX.out.setCell (by have := HSs.out; show w.heap.size ≤ s + 1; omega) _).setCell (by have := HSs.out; show w.heap.size ≤ s + 1; omega) _⟩
  have HEQ : Hid (iss.length = P.own.length) := by show _ = _; have := HL0.out; have := HLI.out; omega
  subst hne
  go_wp2_with fail
  clear q0
  go_loop [6, 7, 26] (fun _ _ c => ∃ j : Nat, j ≤ ni ∧ c = .int .i64 j ∧ Hid (∀ i, i < j → badAt P.own iss i = false)) (fun _ _ c => ni - (intOf c).toNat)
  case atStart => exact ⟨0, Nat.zero_le _, rfl, fun i hi => absurd hi (Nat.not_lt_zero _)⟩
  case round =>
    obtain ⟨j, hj, rfl, hI⟩ := hrel
    by_cases hlt : j < ni
    · obtain ⟨x, b, l, c, rfl, k1, k2⟩ := HPw.out.own.at j hlt
      obtain ⟨y, b2, l2, c2, rfl, m1, m2⟩ := HIw.out.at j hlt
      have q0 := Q1.out
      have hJ : (j : Int) < (ni : Int) := by omega
      have HLT : Hid (j < ni) := hlt
      have E1 : Hid (l = (P.own.getD j []).length) := k2.len
      have E2 : Hid (l2 = (iss.getD j []).length) := m2.len
      have hl5 : (l : Int) ≤ 5 := by have := k2.len; have := (OW.out j hlt).1; omega
      have hl2M : (l2 : Int) ≤ 9223372036854775807 := by have := m2.cap; unfold maxLen at this; omega
      have BD : Hid (badAt P.own iss j = decide (l * 8 < l2)) := by show _ = _; rw [bad_iff, ← E1.out, ← E2.out]
      clear k2 m2 hlt
      by_cases hb : l * 8 < l2
      · have hbI : (l : Int) * 8 < (l2 : Int) := by omega
        have CV : Hid (loadC P iss = 8) := by show _ = _; rw [CE.out]; exact imgC_bad _ _ HEQ.out j (by have := HLT.out; have := HLI.out; omega) (by rw [BD.out]; exact decide_eq_true hb)
        have ZV : Hid (loadZ P iss = []) := by show _ = _; rw [loadZ, if_neg (by rw [CV.out]; decide)]
        clear hb BD hi0 hz0 hz1 hz2
        go_wp2_with fail
        exact bodyPost_ret (v := .agg #[.int .i64 8, .slice none 0 0]) (by simp [results, Tryz.results51, go_sem, r0, r1]) rfl ⟨.slice none 0 0, by rw [CV.out], by rw [ZV.out]; exact Nums.nil _ _, (BX.out.setCell (by have := HSs.out; show w.heap.size ≤ s + 1; omega) _).setCell (by have := HSs.out; show w.heap.size ≤ s + 1; omega) _⟩
      · have hbI : ¬ (l : Int) * 8 < (l2 : Int) := by omega
        have S2 : Hid (∀ i, i < j + 1 → badAt P.own iss i = false) := fun i hi => by
          rcases Nat.lt_or_ge i j with h | h
          · exact hI.out i h
          · obtain rfl : i = j := by omega
            rw [BD.out]
            exact decide_eq_false hb
        clear hb BD hi0 hz0 hz1 hz2
        go_wp2_with fail
        go_round
        case rel => exact ⟨j + 1, by have := HLT.out; omega, by go_num, S2⟩
        case measure => have := HLT.out; simp [intOf]; omega
    · have hJ : ¬ (j : Int) < (ni : Int) := by omega
      have CZ : Hid (imgC P.own iss = 0) := imgC_good _ _ HEQ.out (fun i hi => hI.out i (by have := HLI.out; omega))
      have CV : Hid (loadC P iss = 0) := by show _ = _; rw [CE.out, CZ.out]
      have ZV : Hid (loadZ P iss = allM P.own iss (List.replicate 192 0) iss.length) := by show _ = _; rw [loadZ, if_pos CV.out]
      have IL : Hid (∀ j, j < ni → (iss.getD j []).length ≤ (P.own.getD j []).length * 8) := fun j hj => (imgC_ok _ _ CZ.out).2 j (by have := HLI.out; omega)
      clear hlt hI
      go_wp2_with (at_make; refine wpList_make_full _ rfl _ _ 114 rfl w1.heap.size 140 i0 _ 8 Tryz.underlying114 hi0 hz0 hz1 _ _ _ _ 24 rfl rfl rfl rfl (by rw [hz2]; omega) (by unfold maxLen; omega) (Nat.le_refl _) ?_; intro w2 hown hgrow)
      have P2 : Hid (Pags w2 w1.heap.size (.slice (some ⟨w1.heap.size, 0, none⟩) 24 24) 24 (List.replicate 192 0)) := by
        show Pags _ _ _ _ _
        unfold Pags
        rw [show (Value.agg (Array.replicate 8 (.int .i64 0))).cells = Array.replicate 8 (.int .i64 0) from rfl, made_replicate _ _ _ (by decide)] at hown
        simpa using hown
      have B2 : Hid (Below w1.heap.size w1 w2) := (Below.refl _ _).grown hgrow (Nat.le_refl _) (by simp)
      clear hown hgrow hi0 hz0 hz1 hz2
      go_wp2_with fail
      go_loopw [9, 10, 46] (fun _ _ c wr => ∃ j : Nat, j ≤ ni ∧ c = .int .i64 j ∧ Pags wr w1.heap.size (.slice (some ⟨w1.heap.size, 0, none⟩) 24 24) 24 (allM P.own iss (List.replicate 192 0) j) ∧ Below w1.heap.size w1 wr) (fun _ _ c _ => ni - (intOf c).toNat)
      case atStart => exact ⟨0, Nat.zero_le _, rfl, P2.out, B2.out⟩
      case round =>
        clear P2 B2
        obtain ⟨j, hj, rfl, hN, hB⟩ := hrel
        have HN : Hid (Pags wr _ _ 24 (allM P.own iss (List.replicate 192 0) j)) := hN
        have HB : Hid (Below _ w1 wr) := hB
        by_cases hlt : j < ni
        · obtain ⟨x, b, l, c, rfl, k1, k2⟩ := HPw.out.own.at j hlt
          obtain ⟨y, b2, l2, c2, rfl, m1, m2⟩ := HIw.out.at j hlt
          have q0 := cell_keep hB Q1.out
          have k1 := cell_keep hB k1
          have m1 := cell_keep hB m1
          have hJ3 : (j : Int) < (ni : Int) := by omega
          have HLT : Hid (j < ni) := hlt
          have CL := i_layImage w1.heap.size w1.heap.size _ b l c _ b2 l2 c2 _ w1 wr hN hB (Nat.le_refl _) k2 m2 (OW.out j hlt).2 (OW.out j hlt).1
          rw [show min (8 * (P.own.getD j []).length) (iss.getD j []).length = (iss.getD j []).length by have := IL.out j hlt; omega] at CL
          clear k2 m2 hN hB hlt
          go_wp2_with fail
          refine CL.mono ?_
          rintro e w4 ⟨rfl, p4, b4⟩
          have P4 : Hid (Pags w4 w1.heap.size (.slice (some ⟨w1.heap.size, 0, none⟩) 24 24) 24 (allM P.own iss (List.replicate 192 0) (j + 1))) := p4
          have B4 : Hid (Below w1.heap.size w1 w4) := b4
          clear p4 b4 CL
          go_wp2_with fail
          go_roundw
          case rel => exact ⟨j + 1, by have := HLT.out; omega, by go_num, P4.out, B4.out⟩
          case measure => have := HLT.out; simp [intOf]; omega
        · have hJ3 : ¬ (j : Int) < (ni : Int) := by omega
          have HJ : Hid (j = iss.length) := by show _ = _; have := HLI.out; omega
          have HBJ : Hid (Below w1.heap.size w1 wr) := hB
          have PE : Hid (Pags wr w1.heap.size (.slice (some ⟨w1.heap.size, 0, none⟩) 24 24) 24 (allM P.own iss (List.replicate 192 0) iss.length)) := by rw [← HJ.out]; exact hN
          clear hlt hN hB HN
          go_wp2_with fail
          refine (impl_join _ _ _ _ _ _ PE.out (by decide)).mono ?_
          rintro e w3 ⟨v, rfl, n2', b3⟩
          have B3 : Hid (Below w.heap.size w w3) := on BX.out (on HBJ.out b3)
          have D3 : Hid (Below w1.heap.size w1 w3) := on HBJ.out b3
          obtain ⟨ya, yc, hv, _, _, _⟩ := n2'.shape
          have NN : Hid (Nums w3 w.heap.size v (allM P.own iss (List.replicate 192 0) iss.length)) := n2'.mono (Nat.le_trans BX.out.size HBJ.out.size)
          have NL : Hid (∀ k, v.ownBlock = some k → w1.heap.size ≤ k) := fun k e => Nat.le_trans HBJ.out.size (n2'.lt k e).1
          have LT : Hid (s + 1 < w1.heap.size) := R1.out.2.2.2.2
          generalize (allM P.own iss (List.replicate 192 0) iss.length).length = ln at hv
          subst hv
          obtain ⟨r0, r1, f0, f1, lt⟩ := R1.out.keep D3.out
          clear b3 n2'
          go_wp2_with fail
          refine bodyPost_ret (v := .agg #[.int .i64 0, .slice ya ln yc]) (by simp [results, Tryz.results51, go_sem, r0, r1]) rfl ⟨.slice ya ln yc, by rw [CV.out], ?_, (B3.out.setCell (by have := HSs.out; show w.heap.size ≤ s + 1; omega) _).setCell (by have := HSs.out; show w.heap.size ≤ s + 1; omega) _⟩
          have ne : (Value.slice ya ln yc).ownBlock ≠ some (s + 1) := fun e => by have := NL.out _ e; have := LT.out; omega
          rw [ZV.out]
          exact (NN.out.put ⟨s + 1, 0, none⟩ (.int .i64 0) ne).put ⟨s + 1, 1, none⟩ (.slice ya ln yc) ne
end Go.Proofs.YtmgninipaigjfaaGreatDoor
namespace Go.Proofs.YtmgninipaigjfaaGreatDoor
open Go.RowKit
set_option linter.unusedVariables false

theorem hm_keptX {w w' : World} {base : Nat} {r c i o : Value} {H : Ht} {row : Option Nat} (h : Hm w base r c i o H) (hG : w.grownBy w' row) (hne : ∀ v zs, Nums w base v zs → v.ownBlock = none ∨ v.ownBlock ≠ row) : Hm w' base r c i o H :=
  ⟨h.r.kept hG (hne _ _ h.r), h.c.kept hG (hne _ _ h.c), h.i.kept hG (hne _ _ h.i), h.o.kept hG (hne _ _ h.o)⟩
theorem ha_pw {r c i o : Value} (h : Ha r c i o) : (V4.l ⟨r, c, i, o⟩).Pairwise Apt := by
  simp only [V4.l, List.pairwise_cons, List.mem_cons, List.not_mem_nil, or_false, forall_eq_or_imp, forall_eq]
  exact ⟨⟨h.rc, h.ri, h.ro⟩, ⟨h.ci, h.co⟩, h.io, by simp, List.Pairwise.nil⟩
/-- Machines under way: the first j of them, of the call's own. -/
structure Mw (w : World) (base : Nat) (v : Value) (jss : List (List Int)) (j : Nat) (qs : List (V4 × Ht)) : Prop where
  len : qs.length = j
  row : w.ownsRow base 81 9 v qs.length (flat9 qs)
  one : ∀ (i : Nat) (q : V4 × Ht), qs[i]? = some q → q.2 = newV (jss.getD i []) ∧ Hm w base q.1.r q.1.c q.1.i q.1.o q.2
  apart : (qs.flatMap fun q => q.1.l).Pairwise Apt
theorem Mw.keep {w w' : World} {base j : Nat} {v : Value} {jss : List (List Int)} {qs : List (V4 × Ht)} (h : Mw w base v jss j qs) (b : Below w.heap.size w w') : Mw w' base v jss j qs :=
  ⟨h.len, row_keepX h.row b, fun i q e => ⟨(h.one i q e).1, (h.one i q e).2.keep b⟩, h.apart⟩
theorem Mw.lists {w : World} {base j : Nat} {v : Value} {jss : List (List Int)} {qs : List (V4 × Ht)} (h : Mw w base v jss j qs) : ∀ u ∈ (qs.flatMap fun q => q.1.l), ∃ zs, Nums w base u zs := fun u hu => by
  obtain ⟨q, hq, hv⟩ := List.mem_flatMap.1 hu
  obtain ⟨i, hi, e⟩ := List.mem_iff_getElem.1 hq
  have m := (h.one i q (by rw [List.getElem?_eq_getElem hi, e])).2
  simp only [V4.l, List.mem_cons, List.not_mem_nil, or_false] at hv
  rcases hv with rfl | rfl | rfl | rfl
  · exact ⟨_, m.r⟩
  · exact ⟨_, m.c⟩
  · exact ⟨_, m.i⟩
  · exact ⟨_, m.o⟩
theorem Mw.step {wr w w' : World} {base j : Nat} {v v' r c i o : Value} {jss : List (List Int)} {qs : List (V4 × Ht)} {H : Ht} (h : Mw wr base v jss j qs) (b : Below wr.heap.size wr w) (hm : Hm w wr.heap.size r c i o H) (ha : Ha r c i o) (hb : base ≤ wr.heap.size) (hH : H = newV (jss.getD j [])) (hO : w'.ownsRow base 81 9 v' (qs ++ [((⟨r, c, i, o⟩ : V4), H)]).length (flat9 (qs ++ [((⟨r, c, i, o⟩ : V4), H)]))) (hG : w.grownBy w' v.ownBlock) : Mw w' base v' jss (j + 1) (qs ++ [((⟨r, c, i, o⟩ : V4), H)]) := by
  have hne : ∀ (bs : Nat) (u : Value) (zs : List Int), Nums w bs u zs → u.ownBlock = none ∨ u.ownBlock ≠ v.ownBlock := fun bs u zs hu => row_typesX hu (row_keepX h.row b) (by decide)
  refine ⟨by rw [List.length_append, h.len]; rfl, hO, fun k q e => ?_, ?_⟩
  · by_cases hk : k < qs.length
    · rw [List.getElem?_append_left hk] at e
      exact ⟨(h.one k q e).1, hm_keptX ((h.one k q e).2.keep b) hG (hne base)⟩
    · rw [List.getElem?_append_right (by omega)] at e
      have hk0 : k - qs.length = 0 := by
        rcases Nat.eq_zero_or_pos (k - qs.length) with h0 | h0
        · exact h0
        · rw [List.getElem?_eq_none (by simp; omega)] at e; cases e
      rw [hk0] at e
      cases e
      have : k = j := by have := h.len; omega
      subst this
      exact ⟨hH, (hm_keptX hm hG (hne _)).mono hb⟩
  · rw [List.flatMap_append, List.pairwise_append]
    refine ⟨h.apart, by simpa using ha_pw ha, fun a ha' b' hb' => ?_⟩
    obtain ⟨_, na⟩ := h.lists a ha'
    have hb2 : b' ∈ V4.l ⟨r, c, i, o⟩ := by simpa using hb'
    have nb : ∃ zs, Nums w wr.heap.size b' zs := by
      simp only [V4.l, List.mem_cons, List.not_mem_nil, or_false] at hb2
      rcases hb2 with rfl | rfl | rfl | rfl
      · exact ⟨_, hm.r⟩
      · exact ⟨_, hm.c⟩
      · exact ⟨_, hm.i⟩
      · exact ⟨_, hm.o⟩
    obtain ⟨_, nb⟩ := nb
    exact apt_sep (m := wr.heap.size) (fun k e => (na.lt k e).2) (fun k e => (nb.lt k e).1)
/-- The host that is put together. -/
theorem ow_of {w : World} {base t1 t2 t3 : Nat} {v0 v1 v2 v3 v4 v5 : Value} {P : Plc} {ms : List Int} {jss : List (List Int)} {qs : List (V4 × Ht)} {sl le cl : Int} {j : Nat} (hp : WpE w t3 v0 v1 v2 v3 P) (hm : Nums w t1 v4 ms) (hml : ∀ k, v4.ownBlock = some k → k < t2) (hw : Mw w t2 v5 jss j qs) (hwl : ∀ u ∈ (qs.flatMap fun q => q.1.l), ∀ k, u.ownBlock = some k → k < t3) (hl : jss.length = j) (h1 : base ≤ t1) (h2 : base ≤ t2) (h3 : base ≤ t3) (h23 : t2 ≤ t3) :
    OwE w base v0 v1 v2 v3 v4 v5 ⟨P, ms, jss.map newV, sl, le, cl⟩ := by
  obtain ⟨xs, hx⟩ := hp
  refine ⟨xs, qs, row_monoX hx.own h3, hx.xl, fun i x e => (hx.rows i x e).mono h3, row_monoX hx.lanes h3, row_monoX hx.bells h3, row_monoX hx.plan h3, hm.mono h1, row_monoX hw.row h2, ?_, fun q hq => ?_, ?_⟩
  · apply List.ext_getElem (by rw [List.length_map, hw.len, ← hl, List.length_map])
    intro i k1 k2
    rw [List.length_map] at k1
    have e := (hw.one i qs[i] (List.getElem?_eq_getElem k1)).1
    rw [List.getElem_map, List.getElem_map, e]
    rw [List.getD, List.getElem?_eq_getElem (by rw [List.length_map] at k2; exact k2)]
    rfl
  · obtain ⟨i, hi, e⟩ := List.mem_iff_getElem.1 hq
    exact (hw.one i q (by rw [List.getElem?_eq_getElem hi, e])).2.mono h2
  · rw [List.pairwise_append]
    have hxn : ∀ x ∈ xs, ∀ k, x.ownBlock = some k → t3 ≤ k := fun x hxm k e => by
      obtain ⟨i, hi, e2⟩ := List.mem_iff_getElem.1 hxm
      exact ((hx.rows i x (by rw [List.getElem?_eq_getElem hi, e2])).lt k e).1
    refine ⟨hx.apart, List.pairwise_cons.2 ⟨fun u hu => ?_, hw.apart⟩, fun a ha b hb => ?_⟩
    · obtain ⟨_, nu⟩ := hw.lists u hu
      exact apt_sep (m := t2) hml (fun k e => (nu.lt k e).1)
    · rcases List.mem_cons.1 hb with rfl | hb
      · exact (apt_sep (m := t3) (fun k e => by have := hml k e; omega) (hxn a ha)).swap
      · exact (apt_sep (m := t3) (hwl b hb) (hxn a ha)).swap
set_option maxRecDepth 20000 in
set_option maxHeartbeats 8000000 in
theorem ibh_load (a0 a1 a2 a3 : Option Addr) (n0 c0 n1 c1 n2 c2 n3 c3 : Nat) (P : Plc) (ia : Option Addr) (il ic : Nat) (iss : List (List Int)) (ja : Option Addr) (jl jc : Nat) (jss : List (List Int)) (b : Nat) (w : World) (h : Pl w a0 n0 c0 a1 n1 c1 a2 n2 c2 a3 n3 c3 P) (sm : Small n0 n1 n2 n3 P) (hi : IsS2 w ia il ic iss) (hj : SwN w b ja jl jc jss) (hg : w.cell? ⟨0, 0, none⟩ = some (.iface 165 (.agg #[.pointer (some ⟨1, 112, none⟩)]))) (hv : loadC P iss ≠ 0) :
    Calls Tryz.prog 30 #[.agg #[.slice a0 n0 c0, .slice a1 n1 c1, .slice a2 n2 c2, .slice a3 n3 c3], .slice ia il ic, .slice ja jl jc] w fun e w' => ∃ v0 v1 v2 v3 v4 v5, e = .returned (.agg #[.int .i64 (bhC P iss jss), v0, v1, v2, v3, v4, v5, .int .i64 (bhX P iss jss).slot, .int .i64 (bhX P iss jss).left, .int .i64 (bhX P iss jss).clock]) ∧ OwE w' w.heap.size v0 v1 v2 v3 v4 v5 (bhX P iss jss) ∧ Below w.heap.size w w' := by
  have hx : bhC P iss jss = loadC P iss := by rw [bhC, if_neg hv]
  rw [bh_not P iss jss (by rw [hx]; exact hv), hx]
  obtain ⟨LC, hLC⟩ : ∃ c, loadC P iss = c := ⟨_, rfl⟩
  rw [hLC] at hv ⊢
  have HLC : Hid (loadC P iss = LC) := hLC
  clear hx hLC
  generalize hW : (w.alloc (.cells #[.slice a0 n0 c0, .slice a1 n1 c1, .slice a2 n2 c2, .slice a3 n3 c3] 35)).alloc (.cells #[.int .i64 0, .slice none 0 0, .slice none 0 0, .slice none 0 0, .slice none 0 0, .slice none 0 0, .slice none 0 0, .int .i64 0, .int .i64 0, .int .i64 0] 40) = W
  have B0 : Hid (Below w.heap.size w W) := by show Below _ _ _; rw [← hW]; exact al (al (Below.refl _ _) _) _
  obtain ⟨s, hS⟩ : ∃ s, w.heap.size = s := ⟨_, rfl⟩
  have HSs : Hid (w.heap.size = s) := hS
  have z1 : s + 1 = (w.alloc (.cells #[.slice a0 n0 c0, .slice a1 n1 c1, .slice a2 n2 c2, .slice a3 n3 c3] 35)).heap.size := by rw [← hS]; simp
  have Q : Hid (Vb W s #[.slice a0 n0 c0, .slice a1 n1 c1, .slice a2 n2 c2, .slice a3 n3 c3] 35) := by show Vb _ _ _ _; rw [← hW, ← hS]; exact (Vb.new _ _ _).push _
  have R : Hid (Vb W (s + 1) #[.int .i64 0, .slice none 0 0, .slice none 0 0, .slice none 0 0, .slice none 0 0, .slice none 0 0, .slice none 0 0, .int .i64 0, .int .i64 0, .int .i64 0] 40) := by show Vb _ _ _ _; rw [← hW, z1]; exact Vb.new _ _ _
  have ZW : Hid (s + 2 = W.heap.size) := by show _ = _; rw [← hW, ← hS]; simp
  clear z1
  have D : Hid (Pl W a0 n0 c0 a1 n1 c1 a2 n2 c2 a3 n3 c3 P) := h.stay B0.out
  have SMP : Hid (Small n0 n1 n2 n3 P) := sm
  have N0 : Hid (n0 = P.own.length) := h.own.len
  have NI : Hid (IsS2 W ia il ic iss ∧ SwN W b ja jl jc jss) := ⟨hi.stay B0.out, hj.keep B0.out⟩
  have JL : Hid (jss.length = jl ∧ jl ≤ jc ∧ jc ≤ maxLen) := hj.len
  have HGE : Hid (_ = _) := cell_keep B0.out hg
  clear hg
  clear h hi hj sm
  have q0 := Q.out.cell 0 rfl
  have q1 := Q.out.cell 1 rfl
  have q2 := Q.out.cell 2 rfl
  have q3 := Q.out.cell 3 rfl
  go_enter Tryz.func30, Tryz.ntmps30
  go_wp2_with fail
  clear hW hS q0 q1 q2 q3
  refine (i_load _ _ _ _ _ _ _ _ _ _ _ _ P _ _ _ iss _ D.out NI.out.1 HGE.out).mono ?_
  rw [HLC.out]
  rintro e w1 ⟨mv, rfl, nm, b1⟩
  obtain ⟨la, lk, e0, _⟩ := nm.shape
  subst e0
  obtain ⟨ll, hll⟩ : ∃ n, (loadZ P iss).length = n := ⟨_, rfl⟩
  rw [hll] at nm ⊢
  clear hll
  have AL : Hid (Below w1.heap.size w1 (w1.alloc (.cells #[.int .i64 LC, .slice la ll lk] 75))) := al (Below.refl _ _) _
  have E2 : Hid (Below W.heap.size W (w1.alloc (.cells #[.int .i64 LC, .slice la ll lk] 75))) := al b1 _
  have B2 : Hid (Below w.heap.size w (w1.alloc (.cells #[.int .i64 LC, .slice la ll lk] 75))) := on B0.out E2.out
  have R2 : Hid (Vb (w1.alloc (.cells #[.int .i64 LC, .slice la ll lk] 75)) (s + 1) #[.int .i64 0, .slice none 0 0, .slice none 0 0, .slice none 0 0, .slice none 0 0, .slice none 0 0, .slice none 0 0, .int .i64 0, .int .i64 0, .int .i64 0] 40) := R.out.keep E2.out
  have Q2 : Hid (Vb (w1.alloc (.cells #[.int .i64 LC, .slice la ll lk] 75)) s #[.slice a0 n0 c0, .slice a1 n1 c1, .slice a2 n2 c2, .slice a3 n3 c3] 35) := Q.out.keep E2.out
  have V2 : Hid (Vb (w1.alloc (.cells #[.int .i64 LC, .slice la ll lk] 75)) w1.heap.size #[.int .i64 LC, .slice la ll lk] 75) := Vb.new _ _ _
  have NM : Hid (Nums (w1.alloc (.cells #[.int .i64 LC, .slice la ll lk] 75)) W.heap.size (.slice la ll lk) (loadZ P iss)) := nm.keep AL.out
  have LTs : Hid (s + 2 ≤ w1.heap.size ∧ w1.heap.size + 1 = (w1.alloc (.cells #[.int .i64 LC, .slice la ll lk] 75)).heap.size) := ⟨by have := ZW.out; have := b1.size; omega, by simp⟩
  clear nm b1 AL
  go_upto_region 2 with fail
  generalize (w1.alloc (.cells #[.int .i64 LC, .slice la ll lk] 75)) = W2 at *
  obtain ⟨t2, ht2⟩ : ∃ t, w1.heap.size = t := ⟨_, rfl⟩
  rw [ht2] at V2 LTs ⊢
  clear ht2
  have v0 := V2.out.cell 0 rfl
  have p0 := R2.out.cell 0 rfl
  have f0 := R2.out.free 0
  have p1 := R2.out.cell 1 rfl
  have f1 := R2.out.free 1
  have p2 := R2.out.cell 2 rfl
  have f2 := R2.out.free 2
  have p3 := R2.out.cell 3 rfl
  have f3 := R2.out.free 3
  have p4 := R2.out.cell 4 rfl
  have f4 := R2.out.free 4
  have p5 := R2.out.cell 5 rfl
  have f5 := R2.out.free 5
  have p6 := R2.out.cell 6 rfl
  have f6 := R2.out.free 6
  have p7 := R2.out.cell 7 rfl
  have f7 := R2.out.free 7
  have p8 := R2.out.cell 8 rfl
  have f8 := R2.out.free 8
  have p9 := R2.out.cell 9 rfl
  have f9 := R2.out.free 9
  have lt := R2.out.lt
  go_wp2_with fail
  clear lt p0 f0 p1 f1 p2 f2 p3 f3 p4 f4 p5 f5 p6 f6 p7 f7 p8 f8 p9 f9
  have NN : Hid (_ ∧ _) := ten R2.out (.int .i64 LC) (.slice none 0 0) (.slice none 0 0) (.slice none 0 0) (.slice none 0 0) (.slice none 0 0) (.slice none 0 0) (.int .i64 0) (.int .i64 0) (.int .i64 0)
  generalize ((((((((((W2.setCell ⟨s + 1, 0, none⟩ (.int .i64 LC)).setCell ⟨s + 1, 1, none⟩ (.slice none 0 0)).setCell ⟨s + 1, 2, none⟩ (.slice none 0 0)).setCell ⟨s + 1, 3, none⟩ (.slice none 0 0)).setCell ⟨s + 1, 4, none⟩ (.slice none 0 0)).setCell ⟨s + 1, 5, none⟩ (.slice none 0 0)).setCell ⟨s + 1, 6, none⟩ (.slice none 0 0)).setCell ⟨s + 1, 7, none⟩ (.int .i64 0)).setCell ⟨s + 1, 8, none⟩ (.int .i64 0)).setCell ⟨s + 1, 9, none⟩ (.int .i64 0)) = W9 at *
  have x0 := NN.out.1.cell 0 rfl
  have x1 := NN.out.1.cell 1 rfl
  have x2 := NN.out.1.cell 2 rfl
  have x3 := NN.out.1.cell 3 rfl
  have x4 := NN.out.1.cell 4 rfl
  have x5 := NN.out.1.cell 5 rfl
  have x6 := NN.out.1.cell 6 rfl
  have x7 := NN.out.1.cell 7 rfl
  have x8 := NN.out.1.cell 8 rfl
  have x9 := NN.out.1.cell 9 rfl
  exact bodyPost_ret (v := .agg #[.int .i64 LC, .slice none 0 0, .slice none 0 0, .slice none 0 0, .slice none 0 0, .slice none 0 0, .slice none 0 0, .int .i64 0, .int .i64 0, .int .i64 0]) (by simp [results, Tryz.results30, go_sem, x0, x1, x2, x3, x4, x5, x6, x7, x8, x9]) rfl ⟨_, _, _, _, _, _, rfl, ⟨[], [], ow_void _ _⟩, Mq.under B2.out NN.out.2 fun k e => by have := HSs.out; omega⟩
set_option maxRecDepth 20000 in
set_option maxHeartbeats 8000000 in
theorem ibh_many (a0 a1 a2 a3 : Option Addr) (n0 c0 n1 c1 n2 c2 n3 c3 : Nat) (P : Plc) (ia : Option Addr) (il ic : Nat) (iss : List (List Int)) (ja : Option Addr) (jl jc : Nat) (jss : List (List Int)) (b : Nat) (w : World) (h : Pl w a0 n0 c0 a1 n1 c1 a2 n2 c2 a3 n3 c3 P) (sm : Small n0 n1 n2 n3 P) (hi : IsS2 w ia il ic iss) (hj : SwN w b ja jl jc jss) (hg : w.cell? ⟨0, 0, none⟩ = some (.iface 165 (.agg #[.pointer (some ⟨1, 112, none⟩)]))) (hv : loadC P iss = 0) (hl : jss.length ≠ P.own.length) :
    Calls Tryz.prog 30 #[.agg #[.slice a0 n0 c0, .slice a1 n1 c1, .slice a2 n2 c2, .slice a3 n3 c3], .slice ia il ic, .slice ja jl jc] w fun e w' => ∃ v0 v1 v2 v3 v4 v5, e = .returned (.agg #[.int .i64 (bhC P iss jss), v0, v1, v2, v3, v4, v5, .int .i64 (bhX P iss jss).slot, .int .i64 (bhX P iss jss).left, .int .i64 (bhX P iss jss).clock]) ∧ OwE w' w.heap.size v0 v1 v2 v3 v4 v5 (bhX P iss jss) ∧ Below w.heap.size w w' := by
  have hx : bhC P iss jss = 2 := by rw [bhC, if_pos hv, if_neg hl]
  rw [bh_not P iss jss (by rw [hx]; decide), hx]
  have HLC : Hid (loadC P iss = 0) := hv
  have HL : Hid (jss.length ≠ P.own.length) := hl
  clear hx hv hl
  generalize hW : (w.alloc (.cells #[.slice a0 n0 c0, .slice a1 n1 c1, .slice a2 n2 c2, .slice a3 n3 c3] 35)).alloc (.cells #[.int .i64 0, .slice none 0 0, .slice none 0 0, .slice none 0 0, .slice none 0 0, .slice none 0 0, .slice none 0 0, .int .i64 0, .int .i64 0, .int .i64 0] 40) = W
  have B0 : Hid (Below w.heap.size w W) := by show Below _ _ _; rw [← hW]; exact al (al (Below.refl _ _) _) _
  obtain ⟨s, hS⟩ : ∃ s, w.heap.size = s := ⟨_, rfl⟩
  have HSs : Hid (w.heap.size = s) := hS
  have z1 : s + 1 = (w.alloc (.cells #[.slice a0 n0 c0, .slice a1 n1 c1, .slice a2 n2 c2, .slice a3 n3 c3] 35)).heap.size := by rw [← hS]; simp
  have Q : Hid (Vb W s #[.slice a0 n0 c0, .slice a1 n1 c1, .slice a2 n2 c2, .slice a3 n3 c3] 35) := by show Vb _ _ _ _; rw [← hW, ← hS]; exact (Vb.new _ _ _).push _
  have R : Hid (Vb W (s + 1) #[.int .i64 0, .slice none 0 0, .slice none 0 0, .slice none 0 0, .slice none 0 0, .slice none 0 0, .slice none 0 0, .int .i64 0, .int .i64 0, .int .i64 0] 40) := by show Vb _ _ _ _; rw [← hW, z1]; exact Vb.new _ _ _
  have ZW : Hid (s + 2 = W.heap.size) := by show _ = _; rw [← hW, ← hS]; simp
  clear z1
  have D : Hid (Pl W a0 n0 c0 a1 n1 c1 a2 n2 c2 a3 n3 c3 P) := h.stay B0.out
  have SMP : Hid (Small n0 n1 n2 n3 P) := sm
  have N0 : Hid (n0 = P.own.length) := h.own.len
  have NI : Hid (IsS2 W ia il ic iss ∧ SwN W b ja jl jc jss) := ⟨hi.stay B0.out, hj.keep B0.out⟩
  have JL : Hid (jss.length = jl ∧ jl ≤ jc ∧ jc ≤ maxLen) := hj.len
  have HGE : Hid (_ = _) := cell_keep B0.out hg
  clear hg
  clear h hi hj sm
  have q0 := Q.out.cell 0 rfl
  have q1 := Q.out.cell 1 rfl
  have q2 := Q.out.cell 2 rfl
  have q3 := Q.out.cell 3 rfl
  go_enter Tryz.func30, Tryz.ntmps30
  go_wp2_with fail
  clear hW hS q0 q1 q2 q3
  refine (i_load _ _ _ _ _ _ _ _ _ _ _ _ P _ _ _ iss _ D.out NI.out.1 HGE.out).mono ?_
  rw [HLC.out]
  rintro e w1 ⟨mv, rfl, nm, b1⟩
  obtain ⟨la, lk, e0, _⟩ := nm.shape
  subst e0
  obtain ⟨ll, hll⟩ : ∃ n, (loadZ P iss).length = n := ⟨_, rfl⟩
  rw [hll] at nm ⊢
  clear hll
  have AL : Hid (Below w1.heap.size w1 (w1.alloc (.cells #[.int .i64 0, .slice la ll lk] 75))) := al (Below.refl _ _) _
  have E2 : Hid (Below W.heap.size W (w1.alloc (.cells #[.int .i64 0, .slice la ll lk] 75))) := al b1 _
  have B2 : Hid (Below w.heap.size w (w1.alloc (.cells #[.int .i64 0, .slice la ll lk] 75))) := on B0.out E2.out
  have R2 : Hid (Vb (w1.alloc (.cells #[.int .i64 0, .slice la ll lk] 75)) (s + 1) #[.int .i64 0, .slice none 0 0, .slice none 0 0, .slice none 0 0, .slice none 0 0, .slice none 0 0, .slice none 0 0, .int .i64 0, .int .i64 0, .int .i64 0] 40) := R.out.keep E2.out
  have Q2 : Hid (Vb (w1.alloc (.cells #[.int .i64 0, .slice la ll lk] 75)) s #[.slice a0 n0 c0, .slice a1 n1 c1, .slice a2 n2 c2, .slice a3 n3 c3] 35) := Q.out.keep E2.out
  have V2 : Hid (Vb (w1.alloc (.cells #[.int .i64 0, .slice la ll lk] 75)) w1.heap.size #[.int .i64 0, .slice la ll lk] 75) := Vb.new _ _ _
  have NM : Hid (Nums (w1.alloc (.cells #[.int .i64 0, .slice la ll lk] 75)) W.heap.size (.slice la ll lk) (loadZ P iss)) := nm.keep AL.out
  have LTs : Hid (s + 2 ≤ w1.heap.size ∧ w1.heap.size + 1 = (w1.alloc (.cells #[.int .i64 0, .slice la ll lk] 75)).heap.size) := ⟨by have := ZW.out; have := b1.size; omega, by simp⟩
  clear nm b1 AL
  go_upto_region 2 with fail
  generalize (w1.alloc (.cells #[.int .i64 0, .slice la ll lk] 75)) = W2 at *
  obtain ⟨t2, ht2⟩ : ∃ t, w1.heap.size = t := ⟨_, rfl⟩
  rw [ht2] at V2 LTs ⊢
  clear ht2
  have v0 := V2.out.cell 0 rfl
  have q0 := Q2.out.cell 0 rfl
  have hne : ¬ (jl : Int) = (n0 : Int) := by have := HL.out; have := N0.out; have := JL.out.1; omega
  have hne2 : ¬ jl = n0 := by omega
  have hjm : (jl : Int) ≤ 9223372036854775807 := by have := JL.out.2; unfold maxLen at this; omega
  have p0 := R2.out.cell 0 rfl
  have f0 := R2.out.free 0
  have p1 := R2.out.cell 1 rfl
  have f1 := R2.out.free 1
  have p2 := R2.out.cell 2 rfl
  have f2 := R2.out.free 2
  have p3 := R2.out.cell 3 rfl
  have f3 := R2.out.free 3
  have p4 := R2.out.cell 4 rfl
  have f4 := R2.out.free 4
  have p5 := R2.out.cell 5 rfl
  have f5 := R2.out.free 5
  have p6 := R2.out.cell 6 rfl
  have f6 := R2.out.free 6
  have p7 := R2.out.cell 7 rfl
  have f7 := R2.out.free 7
  have p8 := R2.out.cell 8 rfl
  have f8 := R2.out.free 8
  have p9 := R2.out.cell 9 rfl
  have f9 := R2.out.free 9
  have lt := R2.out.lt
  go_wp2_with fail
  clear lt p0 f0 p1 f1 p2 f2 p3 f3 p4 f4 p5 f5 p6 f6 p7 f7 p8 f8 p9 f9
  have NN : Hid (_ ∧ _) := ten R2.out (.int .i64 2) (.slice none 0 0) (.slice none 0 0) (.slice none 0 0) (.slice none 0 0) (.slice none 0 0) (.slice none 0 0) (.int .i64 0) (.int .i64 0) (.int .i64 0)
  generalize ((((((((((W2.setCell ⟨s + 1, 0, none⟩ (.int .i64 2)).setCell ⟨s + 1, 1, none⟩ (.slice none 0 0)).setCell ⟨s + 1, 2, none⟩ (.slice none 0 0)).setCell ⟨s + 1, 3, none⟩ (.slice none 0 0)).setCell ⟨s + 1, 4, none⟩ (.slice none 0 0)).setCell ⟨s + 1, 5, none⟩ (.slice none 0 0)).setCell ⟨s + 1, 6, none⟩ (.slice none 0 0)).setCell ⟨s + 1, 7, none⟩ (.int .i64 0)).setCell ⟨s + 1, 8, none⟩ (.int .i64 0)).setCell ⟨s + 1, 9, none⟩ (.int .i64 0)) = W9 at *
  have x0 := NN.out.1.cell 0 rfl
  have x1 := NN.out.1.cell 1 rfl
  have x2 := NN.out.1.cell 2 rfl
  have x3 := NN.out.1.cell 3 rfl
  have x4 := NN.out.1.cell 4 rfl
  have x5 := NN.out.1.cell 5 rfl
  have x6 := NN.out.1.cell 6 rfl
  have x7 := NN.out.1.cell 7 rfl
  have x8 := NN.out.1.cell 8 rfl
  have x9 := NN.out.1.cell 9 rfl
  exact bodyPost_ret (v := .agg #[.int .i64 2, .slice none 0 0, .slice none 0 0, .slice none 0 0, .slice none 0 0, .slice none 0 0, .slice none 0 0, .int .i64 0, .int .i64 0, .int .i64 0]) (by simp [results, Tryz.results30, go_sem, x0, x1, x2, x3, x4, x5, x6, x7, x8, x9]) rfl ⟨_, _, _, _, _, _, rfl, ⟨[], [], ow_void _ _⟩, Mq.under B2.out NN.out.2 fun k e => by have := HSs.out; omega⟩
set_option maxRecDepth 20000 in
set_option maxHeartbeats 8000000 in
theorem ibh_run (a0 a1 a2 a3 : Option Addr) (n0 c0 n1 c1 n2 c2 n3 c3 : Nat) (P : Plc) (ia : Option Addr) (il ic : Nat) (iss : List (List Int)) (ja : Option Addr) (jl jc : Nat) (jss : List (List Int)) (b : Nat) (w : World) (h : Pl w a0 n0 c0 a1 n1 c1 a2 n2 c2 a3 n3 c3 P) (sm : Small n0 n1 n2 n3 P) (hi : IsS2 w ia il ic iss) (hj : SwN w b ja jl jc jss) (hg : w.cell? ⟨0, 0, none⟩ = some (.iface 165 (.agg #[.pointer (some ⟨1, 112, none⟩)]))) (hv : loadC P iss = 0) (hl : jss.length = P.own.length) :
    Calls Tryz.prog 30 #[.agg #[.slice a0 n0 c0, .slice a1 n1 c1, .slice a2 n2 c2, .slice a3 n3 c3], .slice ia il ic, .slice ja jl jc] w fun e w' => ∃ v0 v1 v2 v3 v4 v5, e = .returned (.agg #[.int .i64 (bhC P iss jss), v0, v1, v2, v3, v4, v5, .int .i64 (bhX P iss jss).slot, .int .i64 (bhX P iss jss).left, .int .i64 (bhX P iss jss).clock]) ∧ OwE w' w.heap.size v0 v1 v2 v3 v4 v5 (bhX P iss jss) ∧ Below w.heap.size w w' := by
  have hx : bhC P iss jss = nhC jss := by rw [bhC, if_pos hv, if_pos hl]
  obtain ⟨BC, hBC⟩ : ∃ c, bhC P iss jss = c := ⟨_, rfl⟩
  obtain ⟨BX, hBX⟩ : ∃ c, bhX P iss jss = c := ⟨_, rfl⟩
  have HBX : Hid (bhC P iss jss = BC ∧ bhX P iss jss = BX ∧ nhC jss = BC) := ⟨hBC, hBX, by rw [← hx]; exact hBC⟩
  rw [hBC, hBX]
  have HLC : Hid (loadC P iss = 0) := hv
  have HL : Hid (jss.length = P.own.length) := hl
  have PP : Hid (pfV P = 0) := load_pf hv
  clear hx hv hl hBC hBX
  generalize hW : (w.alloc (.cells #[.slice a0 n0 c0, .slice a1 n1 c1, .slice a2 n2 c2, .slice a3 n3 c3] 35)).alloc (.cells #[.int .i64 0, .slice none 0 0, .slice none 0 0, .slice none 0 0, .slice none 0 0, .slice none 0 0, .slice none 0 0, .int .i64 0, .int .i64 0, .int .i64 0] 40) = W
  have B0 : Hid (Below w.heap.size w W) := by show Below _ _ _; rw [← hW]; exact al (al (Below.refl _ _) _) _
  obtain ⟨s, hS⟩ : ∃ s, w.heap.size = s := ⟨_, rfl⟩
  have HSs : Hid (w.heap.size = s) := hS
  have z1 : s + 1 = (w.alloc (.cells #[.slice a0 n0 c0, .slice a1 n1 c1, .slice a2 n2 c2, .slice a3 n3 c3] 35)).heap.size := by rw [← hS]; simp
  have Q : Hid (Vb W s #[.slice a0 n0 c0, .slice a1 n1 c1, .slice a2 n2 c2, .slice a3 n3 c3] 35) := by show Vb _ _ _ _; rw [← hW, ← hS]; exact (Vb.new _ _ _).push _
  have R : Hid (Vb W (s + 1) #[.int .i64 0, .slice none 0 0, .slice none 0 0, .slice none 0 0, .slice none 0 0, .slice none 0 0, .slice none 0 0, .int .i64 0, .int .i64 0, .int .i64 0] 40) := by show Vb _ _ _ _; rw [← hW, z1]; exact Vb.new _ _ _
  have ZW : Hid (s + 2 = W.heap.size) := by show _ = _; rw [← hW, ← hS]; simp
  clear z1
  have D : Hid (Pl W a0 n0 c0 a1 n1 c1 a2 n2 c2 a3 n3 c3 P) := h.stay B0.out
  have SMP : Hid (Small n0 n1 n2 n3 P) := sm
  have N0 : Hid (n0 = P.own.length) := h.own.len
  have NI : Hid (IsS2 W ia il ic iss ∧ SwN W b ja jl jc jss) := ⟨hi.stay B0.out, hj.keep B0.out⟩
  have JL : Hid (jss.length = jl ∧ jl ≤ jc ∧ jc ≤ maxLen) := hj.len
  have HGE : Hid (_ = _) := cell_keep B0.out hg
  clear hg
  clear h hi hj sm
  have q0 := Q.out.cell 0 rfl
  have q1 := Q.out.cell 1 rfl
  have q2 := Q.out.cell 2 rfl
  have q3 := Q.out.cell 3 rfl
  go_enter Tryz.func30, Tryz.ntmps30
  go_wp2_with fail
  clear hW hS q0 q1 q2 q3
  refine (i_load _ _ _ _ _ _ _ _ _ _ _ _ P _ _ _ iss _ D.out NI.out.1 HGE.out).mono ?_
  rw [HLC.out]
  rintro e w1 ⟨mv, rfl, nm, b1⟩
  obtain ⟨la, lk, e0, _⟩ := nm.shape
  subst e0
  obtain ⟨ll, hll⟩ : ∃ n, (loadZ P iss).length = n := ⟨_, rfl⟩
  rw [hll] at nm ⊢
  clear hll
  have AL : Hid (Below w1.heap.size w1 (w1.alloc (.cells #[.int .i64 0, .slice la ll lk] 75))) := al (Below.refl _ _) _
  have E2 : Hid (Below W.heap.size W (w1.alloc (.cells #[.int .i64 0, .slice la ll lk] 75))) := al b1 _
  have B2 : Hid (Below w.heap.size w (w1.alloc (.cells #[.int .i64 0, .slice la ll lk] 75))) := on B0.out E2.out
  have R2 : Hid (Vb (w1.alloc (.cells #[.int .i64 0, .slice la ll lk] 75)) (s + 1) #[.int .i64 0, .slice none 0 0, .slice none 0 0, .slice none 0 0, .slice none 0 0, .slice none 0 0, .slice none 0 0, .int .i64 0, .int .i64 0, .int .i64 0] 40) := R.out.keep E2.out
  have Q2 : Hid (Vb (w1.alloc (.cells #[.int .i64 0, .slice la ll lk] 75)) s #[.slice a0 n0 c0, .slice a1 n1 c1, .slice a2 n2 c2, .slice a3 n3 c3] 35) := Q.out.keep E2.out
  have V2 : Hid (Vb (w1.alloc (.cells #[.int .i64 0, .slice la ll lk] 75)) w1.heap.size #[.int .i64 0, .slice la ll lk] 75) := Vb.new _ _ _
  have NM : Hid (Nums (w1.alloc (.cells #[.int .i64 0, .slice la ll lk] 75)) W.heap.size (.slice la ll lk) (loadZ P iss)) := nm.keep AL.out
  have LTs : Hid (s + 2 ≤ w1.heap.size ∧ w1.heap.size + 1 = (w1.alloc (.cells #[.int .i64 0, .slice la ll lk] 75)).heap.size) := ⟨by have := ZW.out; have := b1.size; omega, by simp⟩
  clear nm b1 AL
  go_upto_region 2 with fail
  generalize (w1.alloc (.cells #[.int .i64 0, .slice la ll lk] 75)) = W2 at *
  obtain ⟨t2, ht2⟩ : ∃ t, w1.heap.size = t := ⟨_, rfl⟩
  rw [ht2] at V2 LTs ⊢
  clear ht2
  have v0 := V2.out.cell 0 rfl
  have q0 := Q2.out.cell 0 rfl
  have hne : (jl : Int) = (n0 : Int) := by have := HL.out; have := N0.out; have := JL.out.1; omega
  have hne2 : jl = n0 := by omega
  have hjm : (jl : Int) ≤ 9223372036854775807 := by have := JL.out.2; unfold maxLen at this; omega
  have NJ : Hid (jl = n0) := hne2
  rw [← hne2] at Q2 D SMP N0 q0 ⊢
  clear hne hne2
  go_wp2_with fail
  clear v0 q0
  go_loopw [8, 10, 11, 30] (fun v _ _ c wr => ∃ (j : Nat) (qs : List (V4 × Ht)), j ≤ jl ∧ c = .int .i64 (j : Int) ∧ Mw wr W2.heap.size v jss j qs ∧ Hid (nhC jss = nhC (jss.drop j)) ∧ Below W2.heap.size W2 wr) (fun _ _ _ c _ => jl - (intOf c).toNat)
  case atStart => exact ⟨0, [], Nat.zero_le _, rfl, ⟨rfl, World.ownsRow_nil _ _ _ _, fun i q e => by simp at e, by simp⟩, rfl, Below.refl _ _⟩
  case round =>
    obtain ⟨j, qs, hj, rfl, hM, HD, hB⟩ := hrel
    obtain ⟨va, vc, hv⟩ := row_shape hM.row
    rw [hM.len] at hv
    subst hv
    have HM : Hid (Mw wr W2.heap.size (.slice va j vc) jss j qs) := hM
    have HB : Hid (Below W2.heap.size W2 wr) := hB
    clear hM
    by_cases hlt : j < jl
    · have hI : (j : Int) < (jl : Int) := by omega
      have HLT : Hid (j < jl) := hlt
      obtain ⟨gj, hgj, _, _, _, hrow⟩ : ∃ g, ja = some ⟨g, 0, none⟩ ∧ jl ≤ jc ∧ jc ≤ maxLen ∧ jss.length = jl ∧ ∀ i, i < jl → ∃ x l k, wr.cell? ⟨g, i, none⟩ = some (.slice x l k) ∧ Nums wr b (.slice x l k) (jss.getD i []) := by
        rcases (NI.out.2.keep E2.out).keep hB with ⟨_, h0, _, _⟩ | h
        · omega
        · exact h
      subst hgj
      obtain ⟨rx, rl, rk, k1, k2⟩ := hrow j hlt
      obtain ⟨zs, hzs⟩ : ∃ z, jss.getD j [] = z := ⟨_, rfl⟩
      have HZS : Hid (jss.getD j [] = zs) := hzs
      rw [hzs] at k2
      have KN : Hid (Nums wr b (.slice rx rl rk) zs) := k2
      clear hlt hB k2 hrow hzs
      go_wp2_with fail
      clear k1
      refine (i_newHart _ zs b _ KN.out).mono ?_
      rintro e w3 ⟨rv, cv, iv, ov, rfl, hm, ha, b3⟩
      obtain ⟨da, dk, e0, _⟩ := hm.r.shape
      obtain ⟨db, dl, e1, _⟩ := hm.c.shape
      obtain ⟨dc, dm, e2, _⟩ := hm.i.shape
      obtain ⟨dd, dn, e3, _⟩ := hm.o.shape
      subst e0 e1 e2 e3
      obtain ⟨CX, hCX⟩ : ∃ c, (newR zs).1 = c := ⟨_, rfl⟩
      obtain ⟨H, hH⟩ : ∃ c, (newR zs).2 = c := ⟨_, rfl⟩
      rw [hCX, hH]
      rw [hH] at hm ha
      obtain ⟨d0, hd0⟩ : ∃ n, H.regs.length = n := ⟨_, rfl⟩
      obtain ⟨d1, hd1⟩ : ∃ n, H.csr.length = n := ⟨_, rfl⟩
      obtain ⟨d2, hd2⟩ : ∃ n, H.inn.length = n := ⟨_, rfl⟩
      obtain ⟨d3, hd3⟩ : ∃ n, H.out.length = n := ⟨_, rfl⟩
      rw [hd0, hd1, hd2, hd3] at hm ha ⊢
      have HCH : Hid ((newR zs).1 = CX ∧ (newR zs).2 = H) := ⟨hCX, hH⟩
      clear hd0 hd1 hd2 hd3 hCX hH
      have AL : Hid (Below w3.heap.size w3 (w3.alloc (.cells #[.int .i64 CX, .slice da d0 dk, .int .i64 H.pc, .slice db d1 dl, .bool H.halted, .bool H.waiting, .bool H.rung, .int .i64 H.done, .slice dc d2 dm, .slice dd d3 dn] 83))) := al (Below.refl _ _) _
      have E3 : Hid (Below wr.heap.size wr (w3.alloc (.cells #[.int .i64 CX, .slice da d0 dk, .int .i64 H.pc, .slice db d1 dl, .bool H.halted, .bool H.waiting, .bool H.rung, .int .i64 H.done, .slice dc d2 dm, .slice dd d3 dn] 83))) := al b3 _
      have V3 : Hid (Vb (w3.alloc (.cells #[.int .i64 CX, .slice da d0 dk, .int .i64 H.pc, .slice db d1 dl, .bool H.halted, .bool H.waiting, .bool H.rung, .int .i64 H.done, .slice dc d2 dm, .slice dd d3 dn] 83)) w3.heap.size #[.int .i64 CX, .slice da d0 dk, .int .i64 H.pc, .slice db d1 dl, .bool H.halted, .bool H.waiting, .bool H.rung, .int .i64 H.done, .slice dc d2 dm, .slice dd d3 dn] 83) := Vb.new _ _ _
      have HM3 : Hid (Hm (w3.alloc (.cells #[.int .i64 CX, .slice da d0 dk, .int .i64 H.pc, .slice db d1 dl, .bool H.halted, .bool H.waiting, .bool H.rung, .int .i64 H.done, .slice dc d2 dm, .slice dd d3 dn] 83)) wr.heap.size (.slice da d0 dk) (.slice db d1 dl) (.slice dc d2 dm) (.slice dd d3 dn) H ∧ Ha (.slice da d0 dk) (.slice db d1 dl) (.slice dc d2 dm) (.slice dd d3 dn)) := ⟨hm.keep AL.out, ha⟩
      clear hm ha b3 AL
      go_upto_region 11 with fail
      generalize (w3.alloc (.cells #[.int .i64 CX, .slice da d0 dk, .int .i64 H.pc, .slice db d1 dl, .bool H.halted, .bool H.waiting, .bool H.rung, .int .i64 H.done, .slice dc d2 dm, .slice dd d3 dn] 83)) = W3 at *
      generalize w3.heap.size = t3 at *
      have v0 := V3.out.cell 0 rfl
      by_cases hc0 : CX = 0
      · subst hc0
        have HOK : Hid (H = newV (jss.getD j [])) := by
          have h1 := HCH.out.1
          have h2 := HCH.out.2
          rw [HZS.out, ← h2]
          unfold newR at h1 ⊢
          split at h1
          · cases h1
          rename_i hq
          rw [if_neg hq]
          cases ew : zs.all isW with
          | false => rw [ew] at h1; cases h1
          | true => rfl
        have ND : Hid (nhC jss = nhC (jss.drop (j + 1))) := by
          show _ = _
          rw [HD.out]
          exact nh_drop jss j (by have := HLT.out; have := JL.out.1; omega) (by rw [HZS.out]; exact HCH.out.1)
        have v1 := V3.out.cell 1 rfl
        have v2 := V3.out.cell 2 rfl
        have v3 := V3.out.cell 3 rfl
        have v4 := V3.out.cell 4 rfl
        have v5 := V3.out.cell 5 rfl
        have v6 := V3.out.cell 6 rfl
        have v7 := V3.out.cell 7 rfl
        have v8 := V3.out.cell 8 rfl
        have v9 := V3.out.cell 9 rfl
        have WL : Hid (W2.heap.size ≤ W3.heap.size ∧ W2.heap.size ≤ wr.heap.size) := ⟨(on HB.out E3.out).size, HB.out.size⟩
        go_wp2_with (at_builtin; refine wp_hartsX _ rfl _ _ rfl W2.heap.size (.slice va j vc) qs rfl ((row_keepX HM.out.row E3.out).alloc _) W3.heap.size (⟨.slice da d0 dk, .slice db d1 dl, .slice dc d2 dm, .slice dd d3 dn⟩ : V4) H rfl (range_new _ _ _) (by intro u hu; simp only [V4.l, List.mem_cons, List.not_mem_nil, or_false] at hu; rcases hu with rfl | rfl | rfl | rfl <;> rfl) (by have := HM.out.len; have := HLT.out; have := JL.out.1; have := HL.out; have := SMP.out.own; omega) (by have := WL.out.1; simp; omega) ?_; intro v' w' hN' hG')
        have MN : Hid (Mw w' W2.heap.size v' jss (j + 1) (qs ++ [((⟨.slice da d0 dk, .slice db d1 dl, .slice dc d2 dm, .slice dd d3 dn⟩ : V4), H)])) := HM.out.step (on E3.out (al (Below.refl _ _) _)) (HM3.out.1.keep (al (Below.refl _ _) _)) HM3.out.2 WL.out.2 HOK.out hN' hG'
        have B' : Hid (Below W2.heap.size W2 w') := (al (on HB.out E3.out) _ : Below W2.heap.size W2 (W3.alloc (.cells #[.slice da d0 dk, .int .i64 H.pc, .slice db d1 dl, .bool H.halted, .bool H.waiting, .bool H.rung, .int .i64 H.done, .slice dc d2 dm, .slice dd d3 dn] 81))).grown hG' (by have := WL.out.1; simp; omega) (fun k e => (HM.out.row.lt k e).1)
        clear hN' hG' v0 v1 v2 v3 v4 v5 v6 v7 v8 v9
        go_wp2_with fail
        go_roundw
        case rel => exact ⟨j + 1, qs ++ [((⟨.slice da d0 dk, .slice db d1 dl, .slice dc d2 dm, .slice dd d3 dn⟩ : V4), H)], by have := HLT.out; omega, by go_num, MN.out, ND.out, B'.out⟩
        case measure => have := HLT.out; simp [intOf]; omega
      · have eBC : Hid (BC = CX ∧ BX = voidX) := by
          have hs := nh_stop jss j (by have := HLT.out; have := JL.out.1; omega) (by rw [HZS.out, HCH.out.1]; exact hc0)
          have e1 : BC = CX := by rw [← HBX.out.2.2, HD.out, hs, HZS.out, HCH.out.1]
          exact ⟨e1, by rw [← HBX.out.2.1]; exact bh_not _ _ _ (by rw [HBX.out.1, e1]; exact hc0)⟩
        have R3 : Hid (Vb W3 (s + 1) #[.int .i64 0, .slice none 0 0, .slice none 0 0, .slice none 0 0, .slice none 0 0, .slice none 0 0, .slice none 0 0, .int .i64 0, .int .i64 0, .int .i64 0] 40) := (R2.out.keep HB.out).keep E3.out
        have B3 : Hid (Below w.heap.size w W3) := on (on B2.out HB.out) E3.out
        have p0 := R3.out.cell 0 rfl
        have f0 := R3.out.free 0
        have p1 := R3.out.cell 1 rfl
        have f1 := R3.out.free 1
        have p2 := R3.out.cell 2 rfl
        have f2 := R3.out.free 2
        have p3 := R3.out.cell 3 rfl
        have f3 := R3.out.free 3
        have p4 := R3.out.cell 4 rfl
        have f4 := R3.out.free 4
        have p5 := R3.out.cell 5 rfl
        have f5 := R3.out.free 5
        have p6 := R3.out.cell 6 rfl
        have f6 := R3.out.free 6
        have p7 := R3.out.cell 7 rfl
        have f7 := R3.out.free 7
        have p8 := R3.out.cell 8 rfl
        have f8 := R3.out.free 8
        have p9 := R3.out.cell 9 rfl
        have f9 := R3.out.free 9
        have lt := R3.out.lt
        go_wp2_with fail
        clear lt p0 f0 p1 f1 p2 f2 p3 f3 p4 f4 p5 f5 p6 f6 p7 f7 p8 f8 p9 f9
        have NN : Hid (_ ∧ _) := ten R3.out (.int .i64 CX) (.slice none 0 0) (.slice none 0 0) (.slice none 0 0) (.slice none 0 0) (.slice none 0 0) (.slice none 0 0) (.int .i64 0) (.int .i64 0) (.int .i64 0)
        generalize ((((((((((W3.setCell ⟨s + 1, 0, none⟩ (.int .i64 CX)).setCell ⟨s + 1, 1, none⟩ (.slice none 0 0)).setCell ⟨s + 1, 2, none⟩ (.slice none 0 0)).setCell ⟨s + 1, 3, none⟩ (.slice none 0 0)).setCell ⟨s + 1, 4, none⟩ (.slice none 0 0)).setCell ⟨s + 1, 5, none⟩ (.slice none 0 0)).setCell ⟨s + 1, 6, none⟩ (.slice none 0 0)).setCell ⟨s + 1, 7, none⟩ (.int .i64 0)).setCell ⟨s + 1, 8, none⟩ (.int .i64 0)).setCell ⟨s + 1, 9, none⟩ (.int .i64 0)) = W9 at *
        have x0 := NN.out.1.cell 0 rfl
        have x1 := NN.out.1.cell 1 rfl
        have x2 := NN.out.1.cell 2 rfl
        have x3 := NN.out.1.cell 3 rfl
        have x4 := NN.out.1.cell 4 rfl
        have x5 := NN.out.1.cell 5 rfl
        have x6 := NN.out.1.cell 6 rfl
        have x7 := NN.out.1.cell 7 rfl
        have x8 := NN.out.1.cell 8 rfl
        have x9 := NN.out.1.cell 9 rfl
        exact bodyPost_ret (v := .agg #[.int .i64 CX, .slice none 0 0, .slice none 0 0, .slice none 0 0, .slice none 0 0, .slice none 0 0, .slice none 0 0, .int .i64 0, .int .i64 0, .int .i64 0]) (by simp [results, Tryz.results30, go_sem, x0, x1, x2, x3, x4, x5, x6, x7, x8, x9]) rfl ⟨_, _, _, _, _, _, by rw [eBC.out.1, eBC.out.2]; rfl, by rw [eBC.out.2]; exact ⟨[], [], ow_void _ _⟩, Mq.under B3.out NN.out.2 fun k e => by have := HSs.out; omega⟩
    · have hJ : ¬ (j : Int) < (jl : Int) := by omega
      have JN : Hid (j = jl) := by show _ = _; omega
      clear hlt hB hj
      have NZ : Hid (BC = 0 ∧ BX = ⟨P, loadZ P iss, jss.map newV, 0, (P.plan.getD 0 (0, 0)).2, 0⟩) := by
        have e0 : nhC jss = 0 := by rw [HD.out, JN.out, ← JL.out.1, List.drop_length]; rfl
        have e1 : BC = 0 := by rw [← HBX.out.2.2, e0]
        exact ⟨e1, by rw [← HBX.out.2.1]; exact bh_yes _ _ _ (by rw [HBX.out.1, e1])⟩
      have Q4' : Hid (Vb wr s #[.slice a0 jl c0, .slice a1 n1 c1, .slice a2 n2 c2, .slice a3 n3 c3] 35) := Q2.out.keep HB.out
      have V4' : Hid (Vb wr t2 #[.int .i64 0, .slice la ll lk] 75) := V2.out.keep HB.out
      have QL : Hid (∀ w', SvN 10 wr (s + 1) w' → Vb w' s #[.slice a0 jl c0, .slice a1 n1 c1, .slice a2 n2 c2, .slice a3 n3 c3] 35 ∧ Vb w' t2 #[.int .i64 0, .slice la ll lk] 75) := fun w' hs => ⟨hs.1.vb Q4'.out (by omega), hs.1.vb V4'.out (by have := LTs.out; omega)⟩
      have BS : Hid (∀ w', SvN 10 wr (s + 1) w' → Below w.heap.size w w') := fun w' hs => Mq.under (on B2.out HB.out) hs.1 fun k e => by have := HSs.out; omega
      have LT : Hid (s + 1 < wr.heap.size) := (R2.out.keep HB.out).lt
      have Sv0 : Hid (SvN 10 wr (s + 1) wr.drew) := SvN.step ⟨Mq.refl _ _, (R2.out.keep HB.out).there 10 (by decide)⟩ LT.out (Below.refl _ _).drew
      have E0 : Hid (Below wr.heap.size wr wr.drew) := (Below.refl _ _).drew
      go_upto_region 15 with fail
      refine wp_region_held (S := fun w' => SvN 10 wr (s + 1) w') (by kernel_rfl) ?_
      change wpAnyH _ _ _ _ _ _ _ _ (World.drew _)
      generalize wr.drew = u0 at *
      refine wpAnyH_take (i := 0) (v := (.agg #[.slice a0 jl c0, .slice a1 n1 c1, .slice a2 n2 c2, .slice a3 n3 c3])) rfl (by kernel_rfl) (by kernel_rfl) (by kernel_rfl) (fun _ _ _ h => h) (Or.inl ⟨by rfl, fun w' hs => by have qv := (QL.out w' hs).1; have y0 := qv.cell 0 rfl; have y1 := qv.cell 1 rfl; have y2 := qv.cell 2 rfl; have y3 := qv.cell 3 rfl; go_simp⟩) Sv0.out ?_
      change wpAnyH _ _ _ _ _ _ _ (Act.put _ (some 48) _) _
      simp only [Act.put, List.setIfInBounds_toArray, List.set_cons_zero, List.set_cons_succ]
      refine wpAnyH_take (i := 1) (v := (.pointer (some ⟨t2, 1, none⟩))) rfl (by kernel_rfl) (by kernel_rfl) (by kernel_rfl) (fun _ _ _ h => h) (Or.inl ⟨by rfl, fun w' hs => by go_simp⟩) Sv0.out ?_
      change wpAnyH _ _ _ _ _ _ _ (Act.put _ (some 49) _) _
      simp only [Act.put, List.setIfInBounds_toArray, List.set_cons_zero, List.set_cons_succ]
      refine wpAnyH_take (i := 2) (v := (.slice la ll lk)) rfl (by kernel_rfl) (by kernel_rfl) (by kernel_rfl) (fun _ _ _ h => h) (Or.inl ⟨by rfl, fun w' hs => by have y := (QL.out w' hs).2.cell 1 rfl; go_simp⟩) Sv0.out ?_
      change wpAnyH _ _ _ _ _ _ _ (Act.put _ (some 50) _) _
      simp only [Act.put, List.setIfInBounds_toArray, List.set_cons_zero, List.set_cons_succ]
      refine wpAnyH_take (i := 3) (v := (.slice va j vc)) rfl (by kernel_rfl) (by kernel_rfl) (by kernel_rfl) (fun _ _ _ h => h) (Or.inl ⟨by rfl, fun w' hs => by go_simp⟩) Sv0.out ?_
      change wpAnyH _ _ _ _ _ _ _ (Act.put _ (some 51) _) _
      simp only [Act.put, List.setIfInBounds_toArray, List.set_cons_zero, List.set_cons_succ]
      refine wpAnyH_take (i := 4) (v := (.agg #[.slice a0 jl c0, .slice a1 n1 c1, .slice a2 n2 c2, .slice a3 n3 c3])) rfl (by kernel_rfl) (by kernel_rfl) (by kernel_rfl) (fun _ _ _ h => h) (Or.inl ⟨by rfl, fun w' hs => by have qv := (QL.out w' hs).1; have y0 := qv.cell 0 rfl; have y1 := qv.cell 1 rfl; have y2 := qv.cell 2 rfl; have y3 := qv.cell 3 rfl; go_simp⟩) Sv0.out ?_
      change wpAnyH _ _ _ _ _ _ _ (Act.put _ (some 52) _) _
      simp only [Act.put, List.setIfInBounds_toArray, List.set_cons_zero, List.set_cons_succ]
      refine wpAnyH_ready (rs := [5]) (by kernel_rfl) (by simp) ?_
      refine AllReadyH.cons rfl (fun K hK => ?_) AllReadyH.nil
      rw [if_pos (by rfl)]
      go_simp
      refine (i_turnAt _ _ _ _ _ _ _ _ _ _ _ _ P 0 _ ((((D.out.stay E2.out).stay HB.out).stay E0.out)) (cell_keep E0.out (cell_keep HB.out (cell_keep E2.out HGE.out))) PP.out (by decide) (by decide)).mono ?_
      obtain ⟨LV, hLV⟩ : ∃ z, (P.plan.getD 0 (0, 0)).2 = z := ⟨_, rfl⟩
      rw [show tS P 0 = (0, LV) by rw [tS_zero PP.out, hLV]]
      rw [hLV] at NZ
      clear hLV
      rintro e u1 ⟨rfl, b1⟩
      have E1 : Hid (Below wr.heap.size wr u1) := on E0.out b1
      have Sv1 : Hid (SvN 10 wr (s + 1) u1) := Sv0.out.step LT.out b1
      clear b1
      refine hK.out _ _ Sv1.out (fun _ => ?_)
      clear hK K
      refine wpAnyH_ready (rs := [6]) (by kernel_rfl) (by simp) ?_
      refine AllReadyH.cons rfl (fun K hK => ?_) AllReadyH.nil
      rw [if_pos (by rfl)]
      go_simp
      refine (i_hostAt _ _ _ _ _ _ _ _ _ _ _ _ P _ _ _ _ _ _ _ _ _ _ (((D.out.stay E2.out).stay HB.out).stay E1.out) SMP.out).mono ?_
      rintro e u2 ⟨_, _, _, _, rfl, wp, b2⟩
      obtain ⟨b0, b1a, b2a, b3, g0, g1, g2, g3, e0, e1, e2, e3⟩ := wp_shapes wp
      subst e0 e1 e2 e3
      obtain ⟨m0, hm0⟩ : ∃ n, P.own.length = n := ⟨_, rfl⟩
      obtain ⟨m1, hm1⟩ : ∃ n, P.lanes.length = n := ⟨_, rfl⟩
      obtain ⟨m2, hm2⟩ : ∃ n, P.bells.length = n := ⟨_, rfl⟩
      obtain ⟨m3, hm3⟩ : ∃ n, P.plan.length = n := ⟨_, rfl⟩
      rw [hm0, hm1, hm2, hm3] at wp ⊢
      have WP : Hid (WpE u2 u1.heap.size (.slice b0 m0 g0) (.slice b1a m1 g1) (.slice b2a m2 g2) (.slice b3 m3 g3) P) := wp
      have Sv2 : Hid (SvN 10 wr (s + 1) u2) := Sv1.out.step LT.out b2
      have C2 : Hid (Below u1.heap.size u1 u2) := b2
      clear wp b2 hm0 hm1 hm2 hm3
      refine hK.out _ _ Sv2.out (fun _ => ?_)
      clear hK K
      refine wpAnyH_take (i := 7) (v := (.agg #[.int .i64 0, .slice b0 m0 g0, .slice b1a m1 g1, .slice b2a m2 g2, .slice b3 m3 g3, .slice la ll lk, .slice va j vc, .int .i64 0, .int .i64 LV, .int .i64 0])) rfl (by kernel_rfl) (by kernel_rfl) (by kernel_rfl) (fun _ _ _ h => h) (Or.inl ⟨by rfl, fun w' hs => by go_simp⟩) Sv2.out ?_
      change wpAnyH _ _ _ _ _ _ _ (Act.put _ (some 55) _) _
      simp only [Act.put, List.setIfInBounds_toArray, List.set_cons_zero, List.set_cons_succ]
      refine wpAnyH_ready (rs := [8]) (by kernel_rfl) (by simp) ?_
      refine AllReadyH.cons rfl (fun K hK => ?_) AllReadyH.nil
      rw [if_pos (by rfl)]
      refine wp_store_mid 40 (.tmp 6) (.tmp 55) rfl (s + 1) 0 #[.int .i64 0, .slice b0 m0 g0, .slice b1a m1 g1, .slice b2a m2 g2, .slice b3 m3 g3, .slice la ll lk, .slice va j vc, .int .i64 0, .int .i64 LV, .int .i64 0] rfl rfl Sv2.out.2 (by kernel_rfl) (by simp [Value.oneCell']) ?_
      change K (Act.put _ none undef) _
      simp only [Act.put]
      have S6 : Hid (SvN 10 wr (s + 1) (u2.setCells (s + 1) 0 #[.int .i64 0, .slice b0 m0 g0, .slice b1a m1 g1, .slice b2a m2 g2, .slice b3 m3 g3, .slice la ll lk, .slice va j vc, .int .i64 0, .int .i64 LV, .int .i64 0].toList)) := Sv2.out.set _
      have R6 : Hid ((u2.setCells (s + 1) 0 #[.int .i64 0, .slice b0 m0 g0, .slice b1a m1 g1, .slice b2a m2 g2, .slice b3 m3 g3, .slice la ll lk, .slice va j vc, .int .i64 0, .int .i64 LV, .int .i64 0].toList).rangeAt (s + 1) 0 #[.int .i64 0, .slice b0 m0 g0, .slice b1a m1 g1, .slice b2a m2 g2, .slice b3 m3 g3, .slice la ll lk, .slice va j vc, .int .i64 0, .int .i64 LV, .int .i64 0].toList) := World.rangeAt_setCells_same _ _ _ _ Sv2.out.2
      have Q6 : Hid (Mq (fun k => k = s + 1) u2 (u2.setCells (s + 1) 0 #[.int .i64 0, .slice b0 m0 g0, .slice b1a m1 g1, .slice b2a m2 g2, .slice b3 m3 g3, .slice la ll lk, .slice va j vc, .int .i64 0, .int .i64 LV, .int .i64 0].toList)) := mq_cells (s + 1) _ u2 0
      generalize u2.setCells (s + 1) 0 #[.int .i64 0, .slice b0 m0 g0, .slice b1a m1 g1, .slice b2a m2 g2, .slice b3 m3 g3, .slice la ll lk, .slice va j vc, .int .i64 0, .int .i64 LV, .int .i64 0].toList = u6 at *
      refine hK.out _ _ S6.out (fun _ => ?_)
      clear hK K
      refine wpAnyH_done (by kernel_rfl) ?_ _
      have O6 : Ho (s + 2) u2 u6 := Q6.out.ho fun k e => by omega
      have W2s : s + 2 ≤ W2.heap.size ∧ W2.heap.size ≤ u1.heap.size := by have := LTs.out; have := HB.out.size; have := E1.out.size; exact ⟨by omega, by omega⟩
      have F : Hid (OwE u6 w.heap.size (.slice b0 m0 g0) (.slice b1a m1 g1) (.slice b2a m2 g2) (.slice b3 m3 g3) (.slice la ll lk) (.slice va j vc) ⟨P, loadZ P iss, jss.map newV, 0, LV, 0⟩) := by
        have hw2 := (HM.out.keep E1.out).keep C2.out
        have hwl : ∀ u ∈ (qs.flatMap fun q => q.1.l), ∀ k, u.ownBlock = some k → k < u1.heap.size := fun u hu k e => by
          obtain ⟨_, nu⟩ := (HM.out.keep E1.out).lists u hu
          exact (nu.lt k e).2
        have hml : ∀ k, (Value.slice la ll lk).ownBlock = some k → k < W2.heap.size := fun k e => (NM.out.lt k e).2
        have nm2 := ((NM.out.keep HB.out).keep E1.out).keep C2.out
        obtain ⟨xs, qs', hO⟩ := ow_of (base := s + 2) (t1 := W.heap.size) (t2 := W2.heap.size) (t3 := u1.heap.size) (sl := 0) (le := LV) (cl := 0) WP.out nm2 hml hw2 hwl (by rw [JL.out.1, JN.out]) (by have := ZW.out; omega) W2s.1 (by omega) W2s.2
        exact ⟨xs, qs', (hO.ho O6).mono (by have := HSs.out; omega)⟩
      have B6 : Hid (Below w.heap.size w u6) := BS.out _ S6.out
      have LD := run_loadVar_mid (P := Tryz.prog) u6 (s + 1) 0 40 #[.int .i64 0, .slice b0 m0 g0, .slice b1a m1 g1, .slice b2a m2 g2, .slice b3 m3 g3, .slice la ll lk, .slice va j vc, .int .i64 0, .int .i64 LV, .int .i64 0].toList _ R6.out Tryz.underlying40 rfl (by kernel_rfl)
      go_wp2_with fail
      exact bodyPost_ret (v := .agg #[.int .i64 0, .slice b0 m0 g0, .slice b1a m1 g1, .slice b2a m2 g2, .slice b3 m3 g3, .slice la ll lk, .slice va j vc, .int .i64 0, .int .i64 LV, .int .i64 0]) (by simp [results, Tryz.results30, asAddr]; rw [LD]) rfl ⟨_, _, _, _, _, _, by rw [NZ.out.1, NZ.out.2], by rw [NZ.out.2]; exact F.out, B6.out⟩
theorem i_bootHost (a0 a1 a2 a3 : Option Addr) (n0 c0 n1 c1 n2 c2 n3 c3 : Nat) (P : Plc) (ia : Option Addr) (il ic : Nat) (iss : List (List Int)) (ja : Option Addr) (jl jc : Nat) (jss : List (List Int)) (b : Nat) (w : World) (h : Pl w a0 n0 c0 a1 n1 c1 a2 n2 c2 a3 n3 c3 P) (sm : Small n0 n1 n2 n3 P) (hi : IsS2 w ia il ic iss) (hj : SwN w b ja jl jc jss) (hg : w.cell? ⟨0, 0, none⟩ = some (.iface 165 (.agg #[.pointer (some ⟨1, 112, none⟩)]))) :
    Calls Tryz.prog 30 #[.agg #[.slice a0 n0 c0, .slice a1 n1 c1, .slice a2 n2 c2, .slice a3 n3 c3], .slice ia il ic, .slice ja jl jc] w fun e w' => ∃ v0 v1 v2 v3 v4 v5, e = .returned (.agg #[.int .i64 (bhC P iss jss), v0, v1, v2, v3, v4, v5, .int .i64 (bhX P iss jss).slot, .int .i64 (bhX P iss jss).left, .int .i64 (bhX P iss jss).clock]) ∧ OwE w' w.heap.size v0 v1 v2 v3 v4 v5 (bhX P iss jss) ∧ Below w.heap.size w w' := by
  by_cases hv : loadC P iss = 0
  · by_cases hl : jss.length = P.own.length
    · exact ibh_run _ _ _ _ _ _ _ _ _ _ _ _ P _ _ _ iss _ _ _ jss b w h sm hi hj hg hv hl
    · exact ibh_many _ _ _ _ _ _ _ _ _ _ _ _ P _ _ _ iss _ _ _ jss b w h sm hi hj hg hv hl
  · exact ibh_load _ _ _ _ _ _ _ _ _ _ _ _ P _ _ _ iss _ _ _ jss b w h sm hi hj hg hv
end Go.Proofs.YtmgninipaigjfaaGreatDoor
namespace Go.Proofs.YtmgninipaigjfaaGreatDoor
open Go.RowKit
set_option linter.unusedVariables false

def twK (P : Plc) (iss jss : List (List Int)) (gu : Int) : Int := if askV P gu = 0 then (if iss.length = P.own.length ∧ jss.length = P.own.length then 0 else 2) else askV P gu
def twC (P : Plc) (iss jss : List (List Int)) (gu : Int) (im inp : List Int) : Int := if twK P iss jss gu = 0 then bhC P (iss.set gu.toNat im) (jss.set gu.toNat inp) else twK P iss jss gu
def twX (P : Plc) (iss jss : List (List Int)) (gu : Int) (im inp : List Int) : Hst := if twK P iss jss gu = 0 then bhX P (iss.set gu.toNat im) (jss.set gu.toNat inp) else voidX
theorem tw_small (P : Plc) (iss jss : List (List Int)) (gu : Int) (im inp : List Int) : Xsm (twX P iss jss gu im inp) := by
  unfold twX
  split
  · exact bh_small _ _ _
  · exact ⟨by decide, fun i hi => by simp [voidX] at hi, by decide, by decide, by decide, by decide, by decide, fun H hH => by cases hH⟩
theorem tw_ask {P : Plc} {gu : Int} (h : askV P gu = 0) : pfV P = 0 ∧ ∃ g : Nat, gu = (g : Int) ∧ g < P.own.length := by
  have hp := ask_pf P gu h
  rw [askV, if_pos hp] at h
  cases e : isG P.own.length gu with
  | false => rw [e, if_pos rfl] at h; cases h
  | true =>
    obtain ⟨h1, h2⟩ := (isG_iff _ _).1 e
    obtain ⟨g, rfl⟩ := Int.eq_ofNat_of_zero_le h1
    exact ⟨hp, g, rfl, by omega⟩
theorem SwN.mono0 {w : World} {b n c : Nat} {a : Option Addr} {jss : List (List Int)} (h : SwN w b a n c jss) : SwN w 0 a n c jss := by
  rcases h with h | ⟨g, h1, h2, h3, h4, h5⟩
  · exact .inl h
  · exact .inr ⟨g, h1, h2, h3, h4, fun i hi => by obtain ⟨x, l, k, k1, k2⟩ := h5 i hi; exact ⟨x, l, k, k1, k2.mono (Nat.zero_le _)⟩⟩
theorem SwN.read {w : World} {b n c : Nat} {a : Option Addr} {jss : List (List Int)} (h : SwN w b a n c jss) : IsS2 w a n c jss := by
  rcases h with ⟨h1, h2, h3, h4⟩ | ⟨g, h1, h2, h3, h4, h5⟩
  · exact .inl ⟨h1, h2, h3, h4⟩
  · refine .inr ⟨⟨g, 0, none⟩, h1, h2, h3, h4, fun i hi => ?_⟩
    obtain ⟨x, l, k, k1, k2⟩ := h5 i hi
    refine ⟨x, l, k, by rw [Addr.add_lit, Nat.zero_add]; exact k1, ?_⟩
    have e := k2.vln
    have e' : l = (jss.getD i []).length := e
    have := k2.rv
    obtain ⟨a', c', e2, r⟩ := this
    cases e2
    exact r
/-- The values of such a slice's cells. -/
theorem SwN.vals {w : World} {b g n c : Nat} {jss : List (List Int)} (h : SwN w b (some ⟨g, 0, none⟩) n c jss) : ∃ xs : List Value, xs.length = n ∧ ∀ (i : Nat) (x : Value), xs[i]? = some x → w.cell? ⟨g, i, none⟩ = some x ∧ x.oneCell' = true ∧ (∃ a l k, x = .slice a l k) ∧ Nums w b x (jss.getD i []) := by
  rcases h with ⟨h, _⟩ | ⟨g', h1, h2, h3, h4, h5⟩
  · cases h
  cases h1
  refine ⟨(List.range n).map fun i => (w.cell? ⟨g, i, none⟩).getD undef, by simp, fun i x e => ?_⟩
  rw [List.getElem?_map] at e
  cases hr : (List.range n)[i]? with
  | none => rw [hr] at e; cases e
  | some k =>
    rw [hr] at e
    have hi : i < n := by have := (List.getElem?_eq_some_iff.1 hr).1; simpa using this
    have hk : k = i := by rw [List.getElem?_range hi] at hr; cases hr; rfl
    subst hk
    obtain ⟨x', l, c', k1, k2⟩ := h5 k hi
    have e : (w.cell? ⟨g, k, none⟩).getD undef = x := by simpa using e
    rw [k1] at e
    cases e
    exact ⟨k1, rfl, ⟨_, _, _, rfl⟩, k2⟩
theorem swn_set {w w' : World} {g n cap : Nat} {b : Nat} {jss : List (List Int)} {xs : List Value} {k : Nat} {z : Value} {zs : List Int} (hx : ∀ (i : Nat) (x : Value), xs[i]? = some x → (∃ a l k, x = .slice a l k) ∧ Nums w 0 x (jss.getD i [])) (hl : xs.length = jss.length) (hr : w'.ownsRow b 28 1 (.slice (some ⟨g, 0, none⟩) n cap) n (xs.set k z)) (hn : n = xs.length) (hk : k < n) (hz : ∃ a l k, z = .slice a l k) (hzs : Nums w' 0 z zs) (kp : ∀ (x : Value) (ys : List Int), Nums w 0 x ys → Nums w' 0 x ys) : SwN w' 0 (some ⟨g, 0, none⟩) n cap (jss.set k zs) := by
  refine .inr ⟨g, rfl, ?_, ?_, by rw [List.length_set]; omega, fun i hi => ?_⟩
  · obtain ⟨_, ⟨e, _⟩ | ⟨_, _, _, e, _, _, h1, _⟩⟩ := hr
    · cases e
    · cases e; exact h1
  · obtain ⟨_, ⟨e, _⟩ | ⟨_, _, _, e, _, _, _, h1, _⟩⟩ := hr
    · cases e
    · cases e; exact h1
  · have cc := World.ownsRow.cellAt hr i (by omega)
    by_cases e : i = k
    · subst e
      rw [List.getElem?_set_self (by omega)] at cc
      obtain ⟨x, l, c', rfl⟩ := hz
      exact ⟨x, l, c', cc, by rw [List.getD, List.getElem?_set_self (by omega)]; exact hzs⟩
    · rw [List.getElem?_set_ne (fun e2 => e e2.symm)] at cc
      have hi' : i < xs.length := by omega
      obtain ⟨⟨x, l, c', ex⟩, nx⟩ := hx i xs[i] (List.getElem?_eq_getElem hi')
      rw [List.getElem?_eq_getElem hi', ex] at cc
      rw [ex] at nx
      exact ⟨x, l, c', cc, by rw [List.getD, List.getElem?_set_ne (fun e2 => e e2.symm)]; exact kp _ _ nx⟩
/-- append of slices to an empty slice of slices. -/
theorem wp_appSS {ops : Array Oper} {rest : List Oper} {o : Oper} {act : Act} {Q : Exit → Act → World → Prop} (w : World) (hgd : o.guard = none) (s x : Operand)
    (ho : o.op = .call { callee := .builtin .append, args := #[s, x], argTypes := #[22, 22] }) (base g : Nat) (hs : act.eval s = .slice (some ⟨g, 0, none⟩) 0 0) (hN : w.ownsRow base 28 1 (.slice (some ⟨g, 0, none⟩) 0 0) 0 [])
    (p m c : Nat) (ys : List Value) (hx : act.eval x = .slice (some ⟨p, 0, none⟩) m c) (hR : ∀ (j : Nat) (u : Value), ys[j]? = some u → w.cell? ⟨p, j, none⟩ = some u ∧ u.oneCell' = true) (hm : ys.length = m)
    (hlen : m ≤ 100000000) (hbase : base ≤ w.heap.size)
    (h : ∀ la lk w', w'.ownsRow base 28 1 (.slice la m lk) m ys → w.grownBy w' (some g) → wpList Tryz.prog ops Q rest (act.put o.dst (.slice la m lk)) w') : wpList Tryz.prog ops Q (o :: rest) act w := by
  obtain ⟨i, hi, hz0, hz1, hz2⟩ := info_parts info_sl
  refine wpList_append_own w hgd s x 22 ho base 28 i _ 1 24 Tryz.underlying22 hi hz0 hz1 hz2 rfl (by decide) _ 0 _ hs hN ⟨p, 0, none⟩ m c ys hx (by omega) (fun j u hj => by rw [Addr.add_lit, Nat.zero_add]; exact (hR j u hj).1) (fun u hu => by obtain ⟨j, hj, e⟩ := List.mem_iff_getElem.1 hu; exact (hR j u (by rw [List.getElem?_eq_getElem hj, e])).2) (by unfold maxLen; omega) (by omega) hbase ?_
  intro v' w' hown hgrow _
  rw [Nat.zero_add, List.nil_append] at hown
  obtain ⟨la, lk, e⟩ := row_shape hown
  subst e
  exact h la lk w' hown hgrow
end Go.Proofs.YtmgninipaigjfaaGreatDoor
