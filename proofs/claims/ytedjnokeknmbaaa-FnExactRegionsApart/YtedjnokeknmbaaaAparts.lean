/- A list of regions that are apart, by program and model. -/
import Derived.Test.YtedjnokeknmbaaaApart
namespace Go.Proofs.Ytedjnokeknmbaaa
open Go.RowKit
set_option linter.unusedVariables false

theorem regV_ne {f s : Int} (h : regB f s = false) : (regV f s != 0) = true := by rw [regV_false h]; rfl
theorem okB_reg {rs : List (Int × Int)} {j : Nat} (h : regB (rs.getD j (0, 0)).1 (rs.getD j (0, 0)).2 = false) : okB rs j = false := by unfold okB; rw [h]; rfl
theorem okB_all {rs : List (Int × Int)} {j : Nat} (h : regB (rs.getD j (0, 0)).1 (rs.getD j (0, 0)).2 = true) : okB rs j = (rs.take j).all fun o => !crossB (rs.getD j (0, 0)).1 (rs.getD j (0, 0)).2 o.1 o.2 := by unfold okB; rw [h, Bool.true_and]

set_option maxHeartbeats 4000000 in
theorem impl_apart (v : Value) (rs : List (Int × Int)) (base : Nat) (w : World) (h : Prs 51 w base v rs) (hq : rs.length ≤ 1048576) :
    Calls Try.prog 43 #[v] w fun e w' => e = .returned (.bool (apartB rs)) ∧ Below w.heap.size w w' := by
  obtain ⟨ad, cap, rfl, l1, l2, hg⟩ := h.shape
  have HZ : Hid (Prs _ w base _ rs) := h
  clear h
  obtain ⟨n, hn⟩ : ∃ n, rs.length = n := ⟨_, rfl⟩
  rw [hn] at HZ l1 hg hq ⊢
  have HN : Hid (rs.length = n ∧ n ≤ 1048576) := ⟨hn, hq⟩
  have hqi : (n : Int) ≤ 1048576 := by omega
  clear hn l1 l2 hq
  go_enter Try.func43, Try.ntmps43
  go_wp2_with fail
  go_loopw [3, 5, 8] (fun u _ c wr => ∃ j : Nat, j ≤ n ∧ c = .int .i64 j ∧ Prs 51 wr w.heap.size u ((rs.take j).filter fun r => decide (0 < r.2)) ∧ Hid ((List.range j).all (okB rs) = true) ∧ Below w.heap.size w wr) (fun _ _ c _ => n - (intOf c).toNat)
  case atStart => exact ⟨0, Nat.zero_le _, rfl, by simpa using Prs.nil _ w _, rfl, Below.refl _ _⟩
  case round =>
    obtain ⟨j, hj, rfl, hP, hA, hB⟩ := hrel
    have HB : Hid (Below _ _ _) := hB
    have HP : Hid (Prs _ wr _ _ _) := hP
    by_cases hlt : j < n
    · obtain ⟨g, rfl⟩ := hg (by omega)
      have c1 := cell_keep hB (HZ.out.cell HN.out.1.symm j hlt).1
      have c2 := cell_keep hB (HZ.out.cell HN.out.1.symm j hlt).2
      have hI : (j : Int) < (n : Int) := by omega
      have HL : Hid (j < rs.length) := by show _ < _; have := HN.out; omega
      have hfl : ((rs.take j).filter fun r => decide (0 < r.2)).length ≤ 1048576 := by
        have h1 := List.length_filter_le (fun r : Int × Int => decide (0 < r.2)) (rs.take j)
        have h2 := List.length_take_le j rs
        omega
      have HFL : Hid _ := hfl
      have hF := fun w => impl_regFault (rs.getD j (0, 0)).1 (rs.getD j (0, 0)).2 w
      have hM := fun u base w h => impl_meets (rs.getD j (0, 0)).1 (rs.getD j (0, 0)).2 u _ base w h hfl
      have hPT : Hid (_ = _) := pos_take rs j HL.out
      have hOA : Hid (regB (rs.getD j (0, 0)).1 (rs.getD j (0, 0)).2 = false → apartB rs = false) := fun h => ok_not HL.out (okB_reg h)
      have hAN : Hid (∀ h : regB (rs.getD j (0, 0)).1 (rs.getD j (0, 0)).2 = true, (((rs.take j).filter fun r => decide (0 < r.2)).any fun o => meetB (rs.getD j (0, 0)).1 (rs.getD j (0, 0)).2 o.1 o.2) = !okB rs j) := by
        intro h
        rw [okB_all h]
        exact any_all _ _ h hA.out (by have := HL.out; omega)
      generalize (rs.getD j (0, 0)).1 = p at *
      generalize (rs.getD j (0, 0)).2 = q at *
      obtain ⟨au, capu, rfl, _, _, _⟩ := hP.shape
      generalize hFF : ((rs.take j).filter fun r => decide (0 < r.2)) = F at *
      have HFF : Hid (_ = F) := hFF
      have SB : Hid (w.heap.size ≤ wr.heap.size) := hB.size
      clear hB hlt hg hfl hFF hP
      cases hreg : regB p q
      · rw [regV_false hreg] at hF
        go_wp2_with fail
        refine (hF _).mono ?_
        rintro e w5 ⟨rfl, b5⟩
        have B5 : Hid (Below _ w w5) := on (al HB.out _) b5
        clear b5
        go_wp2_with fail
        go_ret
        exact ⟨by rw [hOA.out hreg]; rfl, B5.out⟩
      have hAN2 := hAN.out hreg
      rw [hAN2] at hM
      rw [regV_true hreg] at hF
      clear hAN hAN2 hOA
      cases hok : okB rs j
      · rw [hok] at hM
        go_wp2_with fail
        refine (hF _).mono ?_
        rintro e w5 ⟨rfl, b5⟩
        have B5 : Hid (Below _ w w5) := on (al HB.out _) b5
        have P5 : Hid (Prs _ w5 _ _ _) := HP.out.keep (on (al (Below.refl _ _) _) b5)
        obtain ⟨c5, z5⟩ := bcell b5
        clear b5
        go_wp2_with fail
        refine (hM _ _ _ P5.out).mono ?_
        rintro e w6 ⟨rfl, b6⟩
        have B6 : Hid (Below _ w w6) := on B5.out b6
        clear b6
        go_wp2_with fail
        go_ret
        exact ⟨by rw [ok_not HL.out hok]; rfl, B6.out⟩
      · rw [hok] at hM
        go_wp2_with fail
        refine (hF _).mono ?_
        rintro e w5 ⟨rfl, b5⟩
        have B5 : Hid (Below _ w w5) := on (al HB.out _) b5
        have P5 : Hid (Prs _ w5 _ _ _) := HP.out.keep (on (al (Below.refl _ _) _) b5)
        have k0 := cell_keep b5 (cell_new (i := 0) rfl)
        have k1 := cell_keep b5 (cell_new (i := 1) rfl)
        clear b5
        go_wp2_with fail
        refine (hM _ _ _ P5.out).mono ?_
        rintro e w6 ⟨rfl, b6⟩
        have B6 : Hid (Below _ w w6) := on B5.out b6
        have P6 : Hid (Prs _ w6 _ _ _) := P5.out.keep b6
        have k0 := cell_keep b6 k0
        have k1 := cell_keep b6 k1
        have hA' : Hid ((List.range (j + 1)).all (okB rs) = true) := ok_succ hA.out hok
        have S6 : Hid (w.heap.size ≤ w6.heap.size) := B6.out.size
        clear b6 c1 c2 hM hF
        by_cases hpos : 0 < q
        · have hPT2 := hPT.out
          rw [if_pos hpos] at hPT2
          have HPT2 : Hid (_ = _) := hPT2
          clear hPT2 hPT
          go_wp2_with (at_builtin; refine wp_pair 59 51 Try.underlying59 info_region _ rfl _ _ rfl w.heap.size _ _ rfl (P6.out.keep (al (Below.refl _ _) _)) w6.heap.size p q rfl (cell_new rfl) (cell_new rfl) (by have := HFL.out; omega) (by have := S6.out; simp; omega) ?_; intro v' w' hP' hG')
          have PP : Hid (Prs _ w' _ v' _) := hP'
          have BP : Hid (Below w.heap.size w w') := (al B6.out _).grown hG' (by have := S6.out; simp; omega) (fun k hk => (P6.out.lt k hk).1)
          clear hP' hG'
          go_wp2_with fail
          go_roundw
          case rel => exact ⟨j + 1, by have := HL.out; have := HN.out; omega, by go_num, by rw [HPT2.out]; exact PP.out, hA', BP.out⟩
          case measure => have := HL.out; have := HN.out; simp [intOf]; omega
        · have hPT2 := hPT.out
          rw [if_neg hpos, List.append_nil] at hPT2
          have HPT2 : Hid (_ = _) := hPT2
          clear hPT2 hPT
          go_wp2_with fail
          go_roundw
          case rel => exact ⟨j + 1, by have := HL.out; have := HN.out; omega, by go_num, by rw [HPT2.out]; exact P6.out, hA', B6.out⟩
          case measure => have := HL.out; have := HN.out; simp [intOf]; omega
    · have hI : ¬ (j : Int) < (n : Int) := by omega
      obtain rfl : j = n := by omega
      clear hB hP
      go_wp2_with fail
      go_ret
      refine ⟨?_, HB.out⟩
      have := hA.out
      rw [← HN.out.1] at this
      rw [show apartB rs = true from this]
      rfl
end Go.Proofs.Ytedjnokeknmbaaa
