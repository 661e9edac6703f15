/- Two lists compared, by program and model. -/
import Derived.Test.YtldfcojmcdpdgaaNums
namespace Go.Proofs.Ytldfcojmcdpdgaa
open Go.RowKit
set_option linter.unusedVariables false

theorem take_succ_gd (zs : List Int) (j : Nat) (h : j < zs.length) : zs.take (j + 1) = zs.take j ++ [zs.getD j 0] := by
  rw [List.take_succ_eq_append_getElem h, List.getD, List.getElem?_eq_getElem h]
  rfl
set_option maxRecDepth 20000 in
set_option maxHeartbeats 8000000 in
theorem i_equal (v u : Value) (zs ys : List Int) (b b' : Nat) (w : World) (h : Nums w b v zs) (k : Nums w b' u ys) (hz : zs.length ≤ 1048576) (hy : ys.length ≤ 1048576) :
    Calls Try.prog 32 #[v, u] w fun e w' => e = .returned (.bool (decide (zs = ys))) ∧ Below w.heap.size w w' := by
  obtain ⟨a, cap, hv, _, _, hg⟩ := h.shape
  obtain ⟨a', cap', hu, _, _, hg'⟩ := k.shape
  obtain ⟨n, hn⟩ : ∃ n, zs.length = n := ⟨_, rfl⟩
  obtain ⟨n', hn'⟩ : ∃ n, ys.length = n := ⟨_, rfl⟩
  rw [hn] at hv hg hz
  rw [hn'] at hu hg' hy
  subst hv hu
  obtain ⟨R, hR⟩ : ∃ R, decide (zs = ys) = R := ⟨_, rfl⟩
  rw [hR]
  have HR : Hid (decide (zs = ys) = R) := hR
  have HN : Hid (zs.length = n ∧ ys.length = n') := ⟨hn, hn'⟩
  have HZ : Hid (Nums w b (.slice a n cap) zs ∧ Nums w b' (.slice a' n' cap') ys) := ⟨h, k⟩
  have hi : (n : Int) ≤ 1048576 := by omega
  have hi' : (n' : Int) ≤ 1048576 := by omega
  clear hR hn hn' h k hz hy
  by_cases hl : n = n'
  case neg =>
    have e : false = R := by rw [← HR.out]; exact (decide_eq_false (fun e => hl (by rw [← HN.out.1, ← HN.out.2, e]))).symm
    subst e
    have hlI : ¬ (n : Int) = (n' : Int) := by omega
    clear HR
    go_enter Try.func32, Try.ntmps32
    go_wp2_with fail
    go_ret
    exact ⟨rfl, Below.refl _ _⟩
  subst hl
  go_enter Try.func32, Try.ntmps32
  go_wp2_with fail
  go_loopw [5, 13] (fun _ c wr => ∃ j : Nat, j ≤ n ∧ c = .int .i64 j ∧ Hid (zs.take j = ys.take j) ∧ Below w.heap.size w wr) (fun _ c _ => n - (intOf c).toNat)
  case atStart => exact ⟨0, Nat.zero_le _, rfl, rfl, Below.refl _ _⟩
  case round =>
    obtain ⟨j, hj, rfl, hT, hB⟩ := hrel
    have HB : Hid (Below w.heap.size w wr) := hB
    by_cases hlt : j < n
    · have hJ : (j : Int) < (n : Int) := by omega
      have HLT : Hid (j < n) := hlt
      obtain ⟨g, rfl⟩ := hg (by omega)
      obtain ⟨g', rfl⟩ := hg' (by omega)
      have ca := cell_keep hB (HZ.out.1.cell HN.out.1.symm j hlt)
      have cb := cell_keep hB (HZ.out.2.cell HN.out.2.symm j hlt)
      have TZ : Hid (_ = _) := take_succ_gd zs j (by have := HN.out; omega)
      have TY : Hid (_ = _) := take_succ_gd ys j (by have := HN.out; omega)
      obtain ⟨x, hx⟩ : ∃ x, zs.getD j 0 = x := ⟨_, rfl⟩
      obtain ⟨y, hy⟩ : ∃ y, ys.getD j 0 = y := ⟨_, rfl⟩
      have HX : Hid (zs.getD j 0 = x ∧ ys.getD j 0 = y) := ⟨hx, hy⟩
      rw [hx] at ca TZ
      rw [hy] at cb TY
      clear hlt hB hx hy hg hg'
      by_cases he : x = y
      · subst he
        have T2 : Hid (zs.take (j + 1) = ys.take (j + 1)) := by show _ = _; rw [TZ.out, TY.out, hT.out]
        go_wp2_with fail
        go_quiet (skip)
        go_wp2_with fail
        go_roundw
        case rel => exact ⟨j + 1, by have := HLT.out; omega, by go_num, T2, dr HB.out _⟩
        case measure => have := HLT.out; simp [intOf]; omega
      · have e : false = R := by
          rw [← HR.out]
          refine (decide_eq_false (fun e => he ?_)).symm
          rw [← HX.out.1, ← HX.out.2, e]
        subst e
        clear HR
        go_wp2_with fail
        go_quiet (skip)
        go_wp2_with fail
        go_ret
        exact ⟨rfl, dr HB.out _⟩
    · have hJ : ¬ (j : Int) < (n : Int) := by omega
      have e : true = R := by
        have t := hT.out
        rw [List.take_of_length_le (by have := HN.out; omega), List.take_of_length_le (by have := HN.out; omega)] at t
        rw [← HR.out]
        exact (decide_eq_true t).symm
      subst e
      clear HR hB hg hg'
      go_wp2_with fail
      go_ret
      exact ⟨rfl, HB.out⟩
set_option maxRecDepth 20000 in
set_option maxHeartbeats 8000000 in
theorem s_same13 (v u : Value) (zs ys : List Int) (b b' : Nat) (w : World) (h : Nums w b v zs) (k : Nums w b' u ys) (hz : zs.length ≤ 1048576) (hy : ys.length ≤ 1048576) :
    Calls Try.prog 21 #[v, u] w fun e w' => e = .returned (.bool (decide (zs = ys))) ∧ Below w.heap.size w w' := by
  obtain ⟨a, cap, hv, _, _, hg⟩ := h.shape
  obtain ⟨a', cap', hu, _, _, hg'⟩ := k.shape
  obtain ⟨n, hn⟩ : ∃ n, zs.length = n := ⟨_, rfl⟩
  obtain ⟨n', hn'⟩ : ∃ n, ys.length = n := ⟨_, rfl⟩
  rw [hn] at hv hg hz
  rw [hn'] at hu hg' hy
  subst hv hu
  obtain ⟨R, hR⟩ : ∃ R, decide (zs = ys) = R := ⟨_, rfl⟩
  rw [hR]
  have HR : Hid (decide (zs = ys) = R) := hR
  have HN : Hid (zs.length = n ∧ ys.length = n') := ⟨hn, hn'⟩
  have HZ : Hid (Nums w b (.slice a n cap) zs ∧ Nums w b' (.slice a' n' cap') ys) := ⟨h, k⟩
  have hi : (n : Int) ≤ 1048576 := by omega
  have hi' : (n' : Int) ≤ 1048576 := by omega
  clear hR hn hn' h k hz hy
  by_cases hl : n = n'
  case neg =>
    have e : false = R := by rw [← HR.out]; exact (decide_eq_false (fun e => hl (by rw [← HN.out.1, ← HN.out.2, e]))).symm
    subst e
    have hlI : ¬ (n : Int) = (n' : Int) := by omega
    clear HR
    go_enter Try.func21, Try.ntmps21
    go_wp2_with fail
    go_ret
    exact ⟨rfl, Below.refl _ _⟩
  subst hl
  go_enter Try.func21, Try.ntmps21
  go_wp2_with fail
  go_loopw [5] (fun c wr => ∃ j : Nat, j ≤ n ∧ c = .int .i64 j ∧ Hid (zs.take j = ys.take j) ∧ Below w.heap.size w wr) (fun c _ => n - (intOf c).toNat)
  case atStart => exact ⟨0, Nat.zero_le _, rfl, rfl, Below.refl _ _⟩
  case round =>
    obtain ⟨j, hj, rfl, hT, hB⟩ := hrel
    have HB : Hid (Below w.heap.size w wr) := hB
    by_cases hlt : j < n
    · have hJ : (j : Int) < (n : Int) := by omega
      have HLT : Hid (j < n) := hlt
      obtain ⟨g, rfl⟩ := hg (by omega)
      obtain ⟨g', rfl⟩ := hg' (by omega)
      have ca := cell_keep hB (HZ.out.1.cell HN.out.1.symm j hlt)
      have cb := cell_keep hB (HZ.out.2.cell HN.out.2.symm j hlt)
      have TZ : Hid (_ = _) := take_succ_gd zs j (by have := HN.out; omega)
      have TY : Hid (_ = _) := take_succ_gd ys j (by have := HN.out; omega)
      obtain ⟨x, hx⟩ : ∃ x, zs.getD j 0 = x := ⟨_, rfl⟩
      obtain ⟨y, hy⟩ : ∃ y, ys.getD j 0 = y := ⟨_, rfl⟩
      have HX : Hid (zs.getD j 0 = x ∧ ys.getD j 0 = y) := ⟨hx, hy⟩
      rw [hx] at ca TZ
      rw [hy] at cb TY
      clear hlt hB hx hy hg hg'
      by_cases he : x = y
      · subst he
        have T2 : Hid (zs.take (j + 1) = ys.take (j + 1)) := by show _ = _; rw [TZ.out, TY.out, hT.out]
        go_wp2_with fail
        go_quiet (skip)
        go_wp2_with fail
        go_roundw
        case rel => exact ⟨j + 1, by have := HLT.out; omega, by go_num, T2, dr HB.out _⟩
        case measure => have := HLT.out; simp [intOf]; omega
      · have e : false = R := by
          rw [← HR.out]
          refine (decide_eq_false (fun e => he ?_)).symm
          rw [← HX.out.1, ← HX.out.2, e]
        subst e
        clear HR
        go_wp2_with fail
        go_quiet (skip)
        go_wp2_with fail
        go_ret
        exact ⟨rfl, dr HB.out _⟩
    · have hJ : ¬ (j : Int) < (n : Int) := by omega
      have e : true = R := by
        have t := hT.out
        rw [List.take_of_length_le (by have := HN.out; omega), List.take_of_length_le (by have := HN.out; omega)] at t
        rw [← HR.out]
        exact (decide_eq_true t).symm
      subst e
      clear HR hB hg hg'
      go_wp2_with fail
      go_ret
      exact ⟨rfl, HB.out⟩
end Go.Proofs.Ytldfcojmcdpdgaa
