/- Texts of this seat, joined. -/
import Derived.Deep.RegionWith
import Derived.Deep.RegionHeld3
import Derived.Test.YtbegbphbcjoglaaGreatDoorQ42
import Derived.Test.YtbegbphbcjoglaaGreatDoorQ45
import Derived.Test.YtbegbphbcjoglaaGreatDoorQ46
namespace Go.Proofs.YtbegbphbcjoglaaGreatDoor
open Go.RowKit
set_option linter.unusedVariables false

theorem prs_first {e : TypeId} {w : World} {base g n cap : Nat} {rs : List (Int × Int)} (h : Prs e w base (.slice (some ⟨g, 0, none⟩) n cap) rs) (hn : n = rs.length) (j : Nat) (u : Int) (hj : j < n) :
    Prs e (w.setCell ⟨g, j * 2, none⟩ (.int .i64 u)) base (.slice (some ⟨g, 0, none⟩) n cap) (rs.set j (u, (rs.getD j (0, 0)).2)) := by
  subst hn
  have h1 := (World.ownsRow.stored h (j * 2) (.int .i64 u)).1
  have e1 : (flat rs).set (j * 2) (.int .i64 u) = flat (rs.set j (u, (rs.getD j (0, 0)).2)) := by
    rw [flat_set rs j _ _ hj]
    apply List.ext_getElem?
    intro i
    by_cases hi : j * 2 + 1 = i
    · subst hi
      rw [List.getElem?_set_ne (by omega), (flat_get rs j hj).2, List.getElem?_set_self (by rw [List.length_set, flat_length]; omega)]
    · rw [List.getElem?_set_ne hi]
  rw [e1] at h1
  unfold Prs
  rw [List.length_set]
  exact h1
def m11 (ps : List (Int × Int)) : Nat → List (Int × Int)
  | 0 => ps
  | k + 1 => if 0 ≤ ((m11 ps k).getD k (0, 0)).1 then (m11 ps k).set k ((k : Int), ((m11 ps k).getD k (0, 0)).2) else m11 ps k
theorem m11_len (ps : List (Int × Int)) : ∀ k, (m11 ps k).length = ps.length
  | 0 => rfl
  | k + 1 => by
    rw [m11]
    split
    · rw [List.length_set, m11_len ps k]
    · exact m11_len ps k
theorem m11_rest (ps : List (Int × Int)) (i : Nat) : ∀ k, k ≤ i → (m11 ps k).getD i (0, 0) = ps.getD i (0, 0)
  | 0, _ => rfl
  | k + 1, h => by
    rw [m11]
    split
    · rw [List.getD, List.getElem?_set_ne (by omega)]
      exact m11_rest ps i k (by omega)
    · exact m11_rest ps i k (by omega)
theorem m11_done (ps : List (Int × Int)) (i : Nat) (hi : i < ps.length) : ∀ k, i < k → (m11 ps k).getD i (0, 0) = if 0 ≤ (ps.getD i (0, 0)).1 then ((i : Int), (ps.getD i (0, 0)).2) else ps.getD i (0, 0)
  | 0, h => by omega
  | k + 1, h => by
    rw [m11]
    by_cases e : i = k
    · subst e
      rw [m11_rest ps i i (Nat.le_refl _)]
      split
      · rw [List.getD, List.getElem?_set_self (by rw [m11_len]; exact hi)]
        rfl
      · exact m11_rest ps i i (Nat.le_refl _)
    · have ih := m11_done ps i hi k (by omega)
      split
      · rw [List.getD, List.getElem?_set_ne (by omega)]
        exact ih
      · exact ih
theorem m11_alo (ps : List (Int × Int)) (h8 : ps.length = 8) (h : ∀ k, k < 8 → ps.getD k (0, 0) = (-1, 0) ∨ ((0 ≤ (ps.getD k (0, 0)).1 ∧ (ps.getD k (0, 0)).1 ≤ 23) ∧ (ps.getD k (0, 0)).2 ≠ 0)) : m11 ps 8 = aloL ps := by
  have lm : (m11 ps 8).length = 8 := by rw [m11_len, h8]
  apply List.ext_getElem (by rw [lm, aloL_len])
  intro i h1 h2
  have hi : i < 8 := by omega
  have a := m11_done ps i (by omega) 8 hi
  have b := aloL_at ps i hi
  rw [List.getD, List.getElem?_eq_getElem h1] at a
  rw [List.getD, List.getElem?_eq_getElem h2] at b
  simp only [Option.getD_some] at a b
  rw [a, b]
  unfold aloV
  rcases h i hi with e | e
  · rw [e, if_neg (by decide), if_pos rfl]
  · rw [if_pos e.1.1, if_neg e.2]
set_option maxRecDepth 20000 in
set_option maxHeartbeats 8000000 in
theorem s_pages11 (q : Nat) (gu : Int) (P : Plc) (w : World) (h : PolAt w q P) (hgu : 0 ≤ gu ∧ gu < P.own.length) (hp : pfV P = 0) (hf : ∀ k, k < 8 → (pforL (P.own.getD gu.toNat []) P.lanes gu 8).getD k (0, 0) = (-1, 0) ∨ ((0 ≤ ((pforL (P.own.getD gu.toNat []) P.lanes gu 8).getD k (0, 0)).1 ∧ ((pforL (P.own.getD gu.toNat []) P.lanes gu 8).getD k (0, 0)).1 ≤ 23) ∧ ((pforL (P.own.getD gu.toNat []) P.lanes gu 8).getD k (0, 0)).2 ≠ 0)) :
    Calls Tryz.prog 23 #[.pointer (some ⟨q, 0, none⟩), .int .i64 gu] w fun e w' => ∃ v, e = .returned v ∧ Prs 80 w' w.heap.size v (aloL (pforL (P.own.getD gu.toNat []) P.lanes gu 8)) ∧ Below w.heap.size w w' := by
  have PE := pfor_eq (P.own.getD gu.toNat []) P.lanes gu (pf_own P hp gu.toNat (by omega)).2.1 (pf_lanes P hp)
  have L7 := l7_pages q gu P w h hgu hp
  rw [PE] at L7
  have M8 : Hid (m11 (pforL (P.own.getD gu.toNat []) P.lanes gu 8) 8 = aloL (pforL (P.own.getD gu.toNat []) P.lanes gu 8)) := m11_alo _ (pforL_len _ _ _ _) hf
  have PL : Hid ((pforL (P.own.getD gu.toNat []) P.lanes gu 8).length = 8) := pforL_len _ _ _ _
  obtain ⟨PS, hPS⟩ : ∃ PS, (pforL (P.own.getD gu.toNat []) P.lanes gu 8) = PS := ⟨_, rfl⟩
  rw [hPS] at L7 M8 PL ⊢
  clear hPS PE hf h hp
  rw [← M8.out]
  go_enter Tryz.func23, Tryz.ntmps23
  go_wp2_with fail
  refine L7.mono ?_
  clear L7
  rintro e w1 ⟨v, rfl, pr, b1⟩
  obtain ⟨la, lc, hle, hc1, hc2, hls⟩ := pr.shape
  rw [PL.out] at hle hls
  obtain ⟨pb, hpb⟩ := hls (by decide)
  subst hpb
  subst hle
  have L1 : Hid (Prs 80 w1 w.heap.size (.slice (some ⟨pb, 0, none⟩) 8 lc) PS) := pr
  have B1 : Hid (Below w.heap.size w w1) := b1
  have PB : Hid (w.heap.size ≤ pb) := (pr.lt pb rfl).1
  clear pr b1 hls hc1 hc2
  go_wp2_with fail
  go_loopw [6] (fun c wr => ∃ k : Nat, k ≤ 8 ∧ c = .int .i64 (k : Int) ∧ Prs 80 wr w.heap.size (.slice (some ⟨pb, 0, none⟩) 8 lc) (m11 PS k) ∧ Below w.heap.size w wr) (fun c _ => 8 - (intOf c).toNat)
  case atStart => exact ⟨0, by decide, rfl, L1.out, B1.out⟩
  case round =>
    obtain ⟨k, hk, rfl, hL, hB⟩ := hrel
    have HL : Hid (Prs 80 wr w.heap.size (.slice (some ⟨pb, 0, none⟩) 8 lc) (m11 PS k)) := hL
    have HB : Hid (Below w.heap.size w wr) := hB
    have ML : Hid (8 = (m11 PS k).length) := by show _ = _; rw [m11_len, PL.out]
    by_cases hlt : k < 8
    · have hI : (k : Int) < 8 := by omega
      have HLT : Hid (k < 8) := hlt
      have cc := hL.cell ML.out k hlt
      have c0 := cc.1
      have f0 := hL.free ML.out (k * 2)
      have lt := block_of_cell c0
      have MS : Hid (m11 PS (k + 1) = if 0 ≤ ((m11 PS k).getD k (0, 0)).1 then (m11 PS k).set k ((k : Int), ((m11 PS k).getD k (0, 0)).2) else m11 PS k) := by show _ = _; rw [m11]
      have ST : Hid (Prs 80 (wr.setCell ⟨pb, k * 2, none⟩ (.int .i64 (k : Int))) w.heap.size (.slice (some ⟨pb, 0, none⟩) 8 lc) ((m11 PS k).set k ((k : Int), ((m11 PS k).getD k (0, 0)).2))) := prs_first hL ML.out k (k : Int) hlt
      obtain ⟨tk, htk⟩ : ∃ z, ((m11 PS k).getD k (0, 0)).1 = z := ⟨_, rfl⟩
      rw [htk] at c0 MS
      clear hlt hL hB cc htk
      by_cases h0 : 0 ≤ tk
      · have ME : Hid (m11 PS (k + 1) = (m11 PS k).set k ((k : Int), ((m11 PS k).getD k (0, 0)).2)) := by show _ = _; rw [MS.out, if_pos h0]
        go_wp2_with fail
        go_roundw
        case rel => exact ⟨k + 1, by have := HLT.out; omega, by go_num, by rw [ME.out]; exact ST.out, HB.out.setCell (by have := PB.out; show w.heap.size ≤ pb; omega) _⟩
        case measure => have := HLT.out; simp [intOf]; omega
      · have ME : Hid (m11 PS (k + 1) = m11 PS k) := by show _ = _; rw [MS.out, if_neg h0]
        go_wp2_with fail
        go_roundw
        case rel => exact ⟨k + 1, by have := HLT.out; omega, by go_num, by rw [ME.out]; exact HL.out, HB.out⟩
        case measure => have := HLT.out; simp [intOf]; omega
    · have hJ : ¬ (k : Int) < 8 := by omega
      obtain rfl : k = 8 := by omega
      clear hlt hL hB
      go_wp2_with fail
      go_ret
      exact ⟨_, rfl, HL.out, HB.out⟩
end Go.Proofs.YtbegbphbcjoglaaGreatDoor
