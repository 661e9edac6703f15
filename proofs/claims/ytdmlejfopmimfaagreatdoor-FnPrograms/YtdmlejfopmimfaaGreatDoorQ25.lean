/- Texts of this seat, joined. -/
import Derived.Test.YtdmlejfopmimfaaGreatDoorQ21
namespace Go.Proofs.YtdmlejfopmimfaaGreatDoor
open Go.RowKit
set_option linter.unusedVariables false

theorem Os.empty (w : World) (base : Nat) (hb : base ≤ w.heap.size) : Os (w.alloc (.cells #[] 9)) base (.slice (some ⟨w.heap.size, 0, none⟩) 0 0) [] :=
  World.ownsRow_lit w #[] 0 hb (by decide) rfl
theorem sp_sep (sep : UInt8) (l : Wb) (i : Nat) (cur : Wb) (h : i < l.length) (hc : l.getD i 0 = sep) : spl sep (l.drop i) cur = cur :: spl sep (l.drop (i + 1)) [] := by
  rw [drop_at l i h, spl, if_pos hc]
theorem sp_ch (sep : UInt8) (l : Wb) (i : Nat) (cur : Wb) (h : i < l.length) (hc : ¬ l.getD i 0 = sep) : spl sep (l.drop i) cur = spl sep (l.drop (i + 1)) (cur ++ [l.getD i 0]) := by
  rw [drop_at l i h, spl, if_neg hc]
theorem sp_end (sep : UInt8) (l : Wb) (cur : Wb) : spl sep (l.drop l.length) cur = [cur] := by
  rw [List.drop_length, spl]
set_option maxHeartbeats 4000000 in
theorem s_cut (l : Wb) (sep : UInt8) (w : World) (hl : l.length ≤ 1048576) :
    Calls Tryz.prog 56 #[.string (bq l), .int .u8 sep.toNat] w fun e w' => ∃ v, e = .returned v ∧ Os w' w.heap.size v (spl sep l []) ∧ Below w.heap.size w w' := by
  obtain ⟨n, hn⟩ : ∃ n, l.length = n := ⟨_, rfl⟩
  have hz : (bq l).size = n := by rw [bq_size]; exact hn
  have HN : Hid (l.length = n ∧ n ≤ 1048576) := ⟨hn, by omega⟩
  have hnI : (n : Int) ≤ 1048576 := by omega
  have GT : Hid (∀ j (h : j < (bq l).size), (bq l)[j]'h = l.getD j 0) := bq_get l
  have CUT : Hid (∀ f p, (bq l).extract f p = bq (seg l f p)) := bq_cut l
  have E0 : Hid (Os (w.alloc (.cells #[] 9)) w.heap.size (.slice (some ⟨w.heap.size, 0, none⟩) 0 0) []) := Os.empty w _ (Nat.le_refl _)
  have B0 : Hid (Below w.heap.size w (w.alloc (.cells #[] 9))) := al (Below.refl _ _) _
  clear hn hl
  go_enter Tryz.func56, Tryz.ntmps56
  go_wp2_with fail
  generalize w.alloc (.cells #[] 9) = W at *
  go_loopw [5, 6, 7] (fun u f i wr => ∃ (j q : Nat) (P : List Wb), i = .int .i64 j ∧ f = .int .i64 q ∧ j ≤ n + 1 ∧ q ≤ j ∧ P.length ≤ j ∧ Os wr w.heap.size u P ∧ Below w.heap.size w wr ∧ Hid (j ≤ n ∧ P ++ spl sep (l.drop j) (seg l q j) = spl sep l [] ∨ j = n + 1 ∧ P = spl sep l [])) (fun _ _ i _ => n + 2 - (intOf i).toNat)
  case atStart => exact ⟨0, 0, [], rfl, rfl, by omega, Nat.le_refl _, by simp, E0.out, B0.out, .inl ⟨Nat.zero_le _, by rw [seg_self]; rfl⟩⟩
  case round =>
    obtain ⟨j, q, P, rfl, rfl, hj, hq, hP, hO, hB, hT⟩ := hrel
    obtain ⟨au, cu, rfl, _⟩ := hO.shape
    obtain ⟨lu, hlu⟩ : ∃ lu, P.length = lu := ⟨_, rfl⟩
    rw [hlu] at hO ⊢
    have HO : Hid (Os wr w.heap.size (.slice au lu cu) P) := hO
    have HB : Hid (Below w.heap.size w wr) := hB
    have HP : Hid (P.length ≤ j ∧ q ≤ j) := ⟨hP, hq⟩
    have hqI : (q : Int) ≤ (j : Int) := by omega
    clear hO hB hP hlu
    by_cases hjn : j ≤ n
    · have hJ : (j : Int) ≤ (n : Int) := by omega
      have HJ : Hid (j ≤ n) := hjn
      have TT : Hid (P ++ spl sep (l.drop j) (seg l q j) = spl sep l []) := by
        rcases hT.out with ⟨_, h⟩ | ⟨h, _⟩
        · exact h
        · omega
      have hcut := CUT.out q j
      clear hT
      by_cases hje : j = n
      · subst hje
        go_upto_region 8 with (at_builtin; refine wp_pushL _ rfl _ _ rfl w.heap.size _ P rfl (HO.out.keep (al (Below.refl _ _) _)) _ (seg l q j) rfl (cell_new (by first | rfl | simp [hcut])) (by have := HN.out; have := HP.out; omega) (by have := HB.out.size; simp <;> omega) ?_; intro u2 w2 hW2 hG2)
        have W2 : Hid (Os w2 w.heap.size u2 (P ++ [seg l q j])) := hW2
        have B2 : Hid (Below w.heap.size w w2) := (al HB.out _).grown hG2 (by have := HB.out.size; simp <;> omega) (fun k e => (HO.out.lt k e).1)
        clear hW2 hG2 hcut
        go_wp2_with fail
        go_roundw
        case rel => exact ⟨j + 1, j + 1, P ++ [seg l q j], by go_num, by go_num, Nat.le_refl _, Nat.le_refl _, by have := HP.out; simp <;> omega, W2.out, B2.out, .inr ⟨rfl, by rw [← TT.out, ← HN.out.1, sp_end]⟩⟩
        case measure => simp [intOf] <;> omega
      · have hjl : j < n := by omega
        have hJl : (j : Int) < (n : Int) := by omega
        have hJe : ((j : Int) == (n : Int)) = false := by rw [beq_eq_false_iff_ne]; omega
        have hg := GT.out j (by omega)
        obtain ⟨c, hc⟩ : ∃ c, l.getD j 0 = c := ⟨_, rfl⟩
        rw [hc] at hg
        have HC : Hid (l.getD j 0 = c) := hc
        clear hc
        by_cases hcs : c = sep
        · subst hcs
          go_upto_region 8 with (at_builtin; refine wp_pushL _ rfl _ _ rfl w.heap.size _ P rfl (HO.out.keep (al (Below.refl _ _) _)) _ (seg l q j) rfl (cell_new (by first | rfl | simp [hcut])) (by have := HN.out; have := HP.out; omega) (by have := HB.out.size; simp <;> omega) ?_; intro u2 w2 hW2 hG2)
          have W2 : Hid (Os w2 w.heap.size u2 (P ++ [seg l q j])) := hW2
          have B2 : Hid (Below w.heap.size w w2) := (al HB.out _).grown hG2 (by have := HB.out.size; simp <;> omega) (fun k e => (HO.out.lt k e).1)
          clear hW2 hG2 hcut
          go_wp2_with fail
          go_roundw
          case rel => exact ⟨j + 1, j + 1, P ++ [seg l q j], by go_num, by go_num, by omega, Nat.le_refl _, by have := HP.out; simp <;> omega, W2.out, B2.out, .inl ⟨by omega, by rw [← TT.out, sp_sep _ l j _ (by have := HN.out; omega) HC.out, seg_self, List.append_assoc]; rfl⟩⟩
          case measure => simp [intOf] <;> omega
        · have e1 : (c.toNat == sep.toNat) = false := by rw [beq_eq_false_iff_ne]; intro e; exact hcs (UInt8.toNat_inj.1 e)
          have e2 : ¬ c.toNat = sep.toNat := fun e => hcs (UInt8.toNat_inj.1 e)
          have e3 : ((c.toNat : Int) == (sep.toNat : Int)) = false := by rw [beq_eq_false_iff_ne]; omega
          go_wp2_with fail
          go_roundw
          case rel => exact ⟨j + 1, q, P, by go_num, rfl, by omega, by omega, by have := HP.out; omega, HO.out, HB.out, .inl ⟨by omega, by rw [← TT.out, sp_ch _ l j _ (by have := HN.out; omega) (by rw [HC.out]; exact hcs), seg_next l q j (by omega) (by have := HN.out; omega)]⟩⟩
          case measure => simp [intOf] <;> omega
    · have hJ : ¬ (j : Int) ≤ (n : Int) := by omega
      have TT : Hid (P = spl sep l []) := by
        rcases hT.out with ⟨h, _⟩ | ⟨_, h⟩
        · omega
        · exact h
      clear hT
      go_wp2_with fail
      go_ret
      exact ⟨_, rfl, by rw [← TT.out]; exact HO.out, HB.out⟩
end Go.Proofs.YtdmlejfopmimfaaGreatDoor
