/- Whether a machine over a memory has a fault: by the model. -/
import Derived.Test.YtccbiejlljbfcaaXsi
import Derived.Test.YtccbiejlljbfcaaHfs
namespace Go.Proofs.Ytccbiejlljbfcaa
open Go.RowKit
set_option linter.unusedVariables false

set_option maxRecDepth 20000 in
set_option maxHeartbeats 4000000 in
theorem s_asked (q : Nat) (r c i o : Value) (H : Ht) (pa : Option Addr) (pn pc : Nat) (ps : List (Int × Int)) (ma : Option Addr) (mn mc : Nat) (zs : List Int) (b : Nat) (w : World) (h : Hm w b r c i o H) (hv : Vb w q #[r, .int .i64 H.pc, c, .bool H.halted, .bool H.waiting, .bool H.rung, .int .i64 H.done, i, o] 32) (hP : Prs 64 w b (.slice pa pn pc) ps) (hl : ps.length ≤ 1048576) (hM : Nums w b (.slice ma mn mc) zs) (hm : zs.length ≤ 1048576) :
    Calls Try.prog 29 #[.pointer (some ⟨q, 0, none⟩), .slice pa pn pc, .slice ma mn mc] w fun e w' => e = .returned (.int .i64 (seenC H ps zs)) ∧ w' = w := by
  have sF := s_fault q r c i o H b w h hv
  have sP := spec_fault _ ps 24 b w hP hl
  have sM := spec_memFault _ zs b w hM
  have HP : Hid (Prs 64 w b (.slice pa pn pc) ps) := hP
  have HN : Hid (mn = zs.length ∧ pn = ps.length) := by
    refine ⟨hM.len, ?_⟩
    obtain ⟨a, cap, hv, _⟩ := hP.shape
    cases hv
    rfl
  clear h hP hM hl hm hv
  by_cases hf : hfV H = 0
  case neg =>
    have HE : Hid (seenC H ps zs = hfV H) := if_neg hf
    generalize hfV H = f at *
    go_enter Try.func29, Try.ntmps29
    go_wp2_with (go_at_call 45; refine sF.mono ?_; rintro e y ⟨rfl, hy⟩; rw [hy]; clear hy y)
    go_ret
    exact ⟨by rw [HE.out]; rfl, rfl⟩
  have E1 : seenC H ps zs = if pgsV ps 24 = 0 then (if memV zs = 0 then (if beyB ps zs.length then 1 else 0) else 1) else pgsV ps 24 := if_pos hf
  rw [hf] at sF
  clear hf
  by_cases hp : pgsV ps 24 = 0
  case neg =>
    have HE : Hid (seenC H ps zs = pgsV ps 24) := by show _ = _; rw [E1, if_neg hp]
    clear E1
    generalize pgsV ps 24 = f at *
    go_enter Try.func29, Try.ntmps29
    go_wp2_with (first | (go_at_call 45; refine sF.mono ?_; rintro e y ⟨rfl, hy⟩; rw [hy]; clear hy y) | (go_at_call 46; refine sP.mono ?_; rintro e y ⟨rfl, hy⟩; rw [hy]; clear hy y))
    go_ret
    exact ⟨by rw [HE.out]; rfl, rfl⟩
  rw [if_pos hp] at E1
  obtain ⟨_, _, hl8, _⟩ := pgsV_zero hp
  rw [hp] at sP
  have HOK : Hid (okTo 24 ps 8) := (pgsV_zero hp).2.2.2
  clear hp
  by_cases hz : memV zs = 0
  case neg =>
    have HE : Hid (seenC H ps zs = 1) := by show _ = _; rw [E1, if_neg hz]
    clear E1 hl8
    generalize memV zs = f at *
    go_enter Try.func29, Try.ntmps29
    go_wp2_with (first | (go_at_call 45; refine sF.mono ?_; rintro e y ⟨rfl, hy⟩; rw [hy]; clear hy y) | (go_at_call 46; refine sP.mono ?_; rintro e y ⟨rfl, hy⟩; rw [hy]; clear hy y) | (go_at_call 47; refine sM.mono ?_; rintro e y ⟨rfl, hy⟩; rw [hy]; clear hy y))
    go_ret
    exact ⟨by rw [HE.out]; rfl, rfl⟩
  rw [if_pos hz] at E1
  have hz8 : ∃ p, zs.length = p * 8 ∧ p ≤ 24 := by
    unfold memV at hz
    split at hz
    · rename_i hf
      unfold formB at hf
      have hf := of_decide_eq_true hf
      exact ⟨zs.length / 8, by omega, by omega⟩
    · exact absurd hz (by decide)
  obtain ⟨p, hzp, hp24⟩ := hz8
  rw [hz] at sM
  obtain ⟨hn1, hn2⟩ := HN.out
  obtain rfl : mn = p * 8 := by omega
  obtain rfl : pn = 8 := by omega
  obtain ⟨pa', pc', hv, -, -, hg⟩ := HP.out.shape
  obtain ⟨g, hg⟩ := hg (by omega)
  simp only [Value.slice.injEq] at hv
  obtain ⟨hv1, -, -⟩ := hv
  rw [hg] at hv1
  subst hv1
  clear hg
  rw [hzp] at E1
  have HL : Hid (ps.length = 8) := hl8
  have HD : Hid (p * 8 / 8 = p) := by show _ = _; omega
  have HE1 : Hid (seenC H ps zs = if beyB ps (p * 8) then 1 else 0) := E1
  have hpi : (p : Int) ≤ 24 := by omega
  clear hz hn1 hn2 E1 hzp hp24 hl8
  go_enter Try.func29, Try.ntmps29
  go_wp2_with (first | (go_at_call 45; refine sF.mono ?_; rintro e y ⟨rfl, hy⟩; rw [hy]; clear hy y) | (go_at_call 46; refine sP.mono ?_; rintro e y ⟨rfl, hy⟩; rw [hy]; clear hy y) | (go_at_call 47; refine sM.mono ?_; rintro e y ⟨rfl, hy⟩; rw [hy]; clear hy y))
  clear sF sP sM
  go_loop [9] (fun c => ∃ j : Nat, j ≤ 8 ∧ c = .int .i64 j ∧ beyB (ps.take j) (p * 8) = false) (fun c => 8 - (intOf c).toNat)
  case atStart => exact ⟨0, Nat.zero_le _, rfl, rfl⟩
  case round =>
    obtain ⟨j, hj, rfl, hA⟩ := hrel
    have HA : Hid (beyB (ps.take j) (p * 8) = false) := hA
    clear hA
    by_cases hlt : j < 8
    · have c0 := (HP.out.cell HL.out.symm j hlt).1
      have hI : (j : Int) < 8 := by omega
      have HLT : Hid (j < 8) := hlt
      have HT := bey_take ps (p * 8) j (by have := HL.out; omega)
      rw [HA.out] at HT
      have HE := bey_here (ps := ps) (n := p * 8) (j := j) (by have := HL.out; omega)
      rw [HD.out] at HT HE
      have hr := pgC_zero (HOK.out j hlt)
      generalize (ps.getD j (0, 0)).1 = x at *
      have hr1 : -1 ≤ x := hr.1
      have hr2 : x ≤ 23 := by omega
      have HTT : Hid (beyB (ps.take (j + 1)) (p * 8) = (false || decide ((p : Int) ≤ x))) := HT
      have HEE : Hid ((p : Int) ≤ x → beyB ps (p * 8) = true) := HE
      clear HT HE hlt hr
      by_cases hx : (p : Int) ≤ x
      · have hx3 : (p : Int) * 8 < (x + 1) * 8 := by omega
        go_wp2_with fail
        go_ret
        exact ⟨by rw [HE1.out, HEE.out hx]; rfl, rfl⟩
      · have hx2 : x < (p : Int) := by omega
        have hx3 : ¬ (p : Int) * 8 < (x + 1) * 8 := by omega
        go_wp2_with fail
        go_round
        case rel => exact ⟨j + 1, by have := HLT.out; omega, by go_num, by rw [HTT.out]; simpa using hx2⟩
        case measure => have := HLT.out; simp [intOf]; omega
    · have hI : ¬ (j : Int) < 8 := by omega
      obtain rfl : j = 8 := by omega
      have HE : Hid (seenC H ps zs = 0) := by
        have := HA.out
        rw [List.take_of_length_le (Nat.le_of_eq HL.out)] at this
        show _ = _
        rw [HE1.out, this]
        rfl
      go_wp2_with fail
      go_ret
      exact ⟨by rw [HE.out]; rfl, rfl⟩
end Go.Proofs.Ytccbiejlljbfcaa
