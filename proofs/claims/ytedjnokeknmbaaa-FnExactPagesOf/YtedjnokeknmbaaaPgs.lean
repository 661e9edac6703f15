/- The pages of a region, by program and model. -/
import Derived.Test.YtedjnokeknmbaaaRise
import Derived.Test.YtedjnokeknmbaaaReg
import Derived.Test.YtedjnokeknmbaaaIntr
namespace Go.Proofs.Ytedjnokeknmbaaa
open Go.RowKit
set_option linter.unusedVariables false

/-- How many pages the first t places from f on lie in. -/
def cnt (f t : Nat) : Nat := if t = 0 then 0 else (f + t - 1) / 8 - f / 8 + 1
theorem cnt_le (f t : Nat) (h : f + t ≤ 192) : cnt f t ≤ 25 := by unfold cnt; split <;> omega
theorem cnt_new (f t : Nat) (h : t = 0 ∨ (f + t) % 8 = 0) : (f + t) / 8 = f / 8 + cnt f t ∧ cnt f (t + 1) = cnt f t + 1 := by
  unfold cnt
  by_cases ht : t = 0
  · subst ht; simp
  · simp only [if_neg ht, if_neg (show ¬ t + 1 = 0 by omega)]
    omega
theorem cnt_old (f t : Nat) (h : ¬ (t = 0 ∨ (f + t) % 8 = 0)) : 1 ≤ cnt f t ∧ (f + t) / 8 = f / 8 + (cnt f t - 1) ∧ cnt f (t + 1) = cnt f t := by
  unfold cnt
  have ht : ¬ t = 0 := by omega
  simp only [if_neg ht, if_neg (show ¬ t + 1 = 0 by omega)]
  omega
def pgZ (f s : Int) : List Int := if regB f s then marks (f / 8) (cnt f.toNat s.toNat) else []
theorem pgZ_len (f s : Int) : (pgZ f s).length ≤ 25 := by
  unfold pgZ
  split
  · next h =>
    have := regB_true h
    rw [marks_length]
    exact cnt_le _ _ (by omega)
  · simp
theorem marks_succ (k : Int) (n : Nat) : marks k n ++ [k + n] = marks k (n + 1) := by
  simp [marks, List.range_succ]
theorem rise_marks (k : Int) (n : Nat) : riseL (marks k n) (k + n) n = marks k (n + 1) := by
  unfold riseL
  rw [List.take_of_length_le (by rw [marks_length]; exact Nat.le_refl _), List.drop_of_length_le (by rw [marks_length]; exact Nat.le_refl _), List.append_nil, marks_succ]
theorem marks_lt (k : Int) (n i : Nat) (h : i < n) (v : Int) (hv : k + i < v) : (marks k n).getD i 0 < v := by rw [marks_getD k n i h]; exact hv

theorem one_of {w : World} {g : Nat} {z : Int} (h : w.cell? ⟨g, 0, none⟩ = some (.int .i64 z)) : ∀ i, i < 1 → w.cell? ⟨g, i, none⟩ = some (.int .i64 (([z] : List Int).getD i 0)) := by
  intro i hi
  obtain rfl : i = 0 := by omega
  exact h

/-- What l1Rise does with the next page. -/
theorem rise_page (u : Value) (P v : Int) (n m : Nat) (b : Nat) (w : World) (h : Nums w b u (marks P n)) (hb : b ≤ w.heap.size) (hn : n ≤ 1000) (hv : (v = P + n ∧ m = n + 1) ∨ (1 ≤ n ∧ v = P + (n - 1 : Nat) ∧ m = n)) :
    Calls Try.prog 70 #[u, .int .i64 v] w fun e w' => ∃ u', e = .returned u' ∧ Nums w' b u' (marks P m) ∧ Below w.heap.size w w' := by
  obtain ⟨a, cap, rfl, _, _, hg⟩ := h.shape
  rw [marks_length] at h hg ⊢
  rcases hv with ⟨rfl, rfl⟩ | ⟨h1, rfl, rfl⟩
  · by_cases h0 : n = 0
    · subst h0
      have hv : (Value.slice a 0 cap = .slice none 0 0) ∨ ∃ g, a = some ⟨g, 0, none⟩ := by
        obtain ⟨_, ⟨e, _⟩ | ⟨g, c', cur, e, _⟩⟩ := h
        · exact .inl e
        · simp at e; exact .inr ⟨g, e.1⟩
      rcases hv with e | ⟨g, rfl⟩
      · rw [e]
        refine (rise_nil _ _).mono ?_
        rintro e w1 ⟨u, rfl, n1, b1⟩
        exact ⟨u, rfl, by have := n1.mono hb; simpa [marks] using this, b1⟩
      · refine (rise_row g 0 cap _ _ b 0 _ h (by omega) (Nat.le_refl _) (fun i hi => by omega) (fun hh => by omega)).mono ?_
        rintro e w1 ⟨u, rfl, n1, b1⟩
        exact ⟨u, rfl, by rw [rise_marks] at n1; exact n1.mono hb, b1⟩
    · obtain ⟨g, rfl⟩ := hg (by omega)
      refine (rise_row g n cap _ _ b n _ h hn (Nat.le_refl _) (fun i hi => marks_lt _ _ _ hi _ (by omega)) (fun hh => by omega)).mono ?_
      rintro e w1 ⟨u, rfl, n1, b1⟩
      exact ⟨u, rfl, by rw [rise_marks] at n1; exact n1.mono hb, b1⟩
  · obtain ⟨g, rfl⟩ := hg (by omega)
    refine (rise_same g m cap _ _ b (m - 1) _ h hn (by omega) (fun i hi => marks_lt _ _ _ (by omega) _ (by omega)) (marks_getD _ _ _ (by omega))).mono ?_
    rintro e w1 ⟨rfl, rfl⟩
    exact ⟨_, rfl, h, Below.refl _ _⟩

set_option maxHeartbeats 2000000 in
theorem spec_pages (f s : Int) (w : World) :
    Calls Try.prog 45 #[.agg #[.int .i64 f, .int .i64 s]] w fun e w' => ∃ u, e = .returned (.agg #[.int .i64 (regV f s), u]) ∧ Nums w' w.heap.size u (pgZ f s) ∧ Below w.heap.size w w' := by
  have hF := fun w => spec_regFault f s w
  cases hreg : regB f s
  · have e2 : pgZ f s = [] := by simp [pgZ, hreg]
    rw [e2]
    rw [regV_false hreg] at hF ⊢
    clear e2
    go_enter Try.func45, Try.ntmps45
    go_wp2_with fail
    refine (hF _).mono ?_
    rintro e w1 ⟨rfl, b1⟩
    obtain ⟨c1, z1⟩ := bcell b1
    have k0 : w1.cell? ⟨w.heap.size + 1, 0, none⟩ = some (.int .i64 0) := cell_keep b1 (by simp)
    have k1 : w1.cell? ⟨w.heap.size + 1, 1, none⟩ = some (.slice none 0 0) := cell_keep b1 (by simp)
    have B1 : Hid (Below w.heap.size w w1) := on (al (al (Below.refl _ _) _) _) b1
    clear b1
    go_wp2_with fail
    exact bodyPost_ret (v := .agg #[.int .i64 3, .slice none 0 0]) (by simp [results, Try.results45, go_sem, k0, k1]) rfl ⟨_, rfl, Nums.nil _ _, (B1.out.setCell (by simp) _).setCell (by simp) _⟩
  · obtain ⟨r1, r2, r3, r4, r5⟩ := regB_true hreg
    obtain ⟨F, rfl⟩ : ∃ F : Nat, f = F := ⟨f.toNat, by omega⟩
    obtain ⟨T, rfl⟩ : ∃ T : Nat, s = T := ⟨s.toNat, by omega⟩
    have e2 : pgZ F T = marks ((F : Int) / 8) (cnt F T) := by simp [pgZ, hreg]
    rw [e2]
    rw [regV_true hreg] at hF ⊢
    have HFT : Hid (F + T ≤ 192) := by show _ ≤ _; omega
    clear e2 hreg r1 r3
    go_enter Try.func45, Try.ntmps45
    go_wp2_with fail
    refine (hF _).mono ?_
    rintro e w1 ⟨rfl, b1⟩
    obtain ⟨c1, z1⟩ := bcell b1
    have k0 : w1.cell? ⟨w.heap.size + 1, 0, none⟩ = some (.int .i64 0) := cell_keep b1 (by simp)
    have k1 : w1.cell? ⟨w.heap.size + 1, 1, none⟩ = some (.slice none 0 0) := cell_keep b1 (by simp)
    have q0 : w1.cell? ⟨w.heap.size, 0, none⟩ = some (.int .i64 F) := cell_keep b1 (by simp)
    have q1 : w1.cell? ⟨w.heap.size, 1, none⟩ = some (.int .i64 T) := cell_keep b1 (by simp)
    have f0 : w1.frozen? ⟨w.heap.size + 1, 0, none⟩ = false := by rw [z1 _ _ (by simp)]; simp
    have f1 : w1.frozen? ⟨w.heap.size + 1, 1, none⟩ = false := by rw [z1 _ _ (by simp)]; simp
    have B1 : Hid (Below w.heap.size w w1) := on (al (al (Below.refl _ _) _) _) b1
    have s1 : w.heap.size + 1 < w1.heap.size := block_of_cell k0
    have s0 : w.heap.size < w1.heap.size := by omega
    have S1 : Hid (w.heap.size + 1 < w1.heap.size) := s1
    clear b1 c1 z1 hF
    have KK : Hid ((w1.cell? ⟨w.heap.size + 1, 0, none⟩ = some (.int .i64 0) ∧ w1.cell? ⟨w.heap.size + 1, 1, none⟩ = some (.slice none 0 0)) ∧ (w1.cell? ⟨w.heap.size, 0, none⟩ = some (.int .i64 F) ∧ w1.cell? ⟨w.heap.size, 1, none⟩ = some (.int .i64 T)) ∧ w1.frozen? ⟨w.heap.size + 1, 0, none⟩ = false ∧ w1.frozen? ⟨w.heap.size + 1, 1, none⟩ = false) := ⟨⟨k0, k1⟩, ⟨q0, q1⟩, f0, f1⟩
    go_wp2_with fail
    clear k0 k1 q0 q1 f0 f1
    go_loopw [5] (fun c wr => ∃ (t : Nat) (u : Value), t ≤ T ∧ c = .int .i64 ((F + t : Nat) : Int) ∧ Nums wr (w1.heap.size + 1) u (marks ((F : Int) / 8) (cnt F t)) ∧ wr.cell? ⟨w1.heap.size, 0, none⟩ = some (.int .i64 0) ∧ wr.cell? ⟨w1.heap.size, 1, none⟩ = some u ∧ wr.frozen? ⟨w1.heap.size, 1, none⟩ = false ∧ Below w1.heap.size w1 wr) (fun c _ => F + T - (intOf c).toNat)
    case atStart => exact ⟨0, _, Nat.zero_le _, rfl, Nums.nil _ _, by simp, by simp, by simp, al (Below.refl _ _) _⟩
    case round =>
      obtain ⟨t, u, ht, rfl, hN, o0, o1, fo, hB⟩ := hrel
      have HB : Hid (Below _ _ _) := hB
      have HN : Hid (Nums wr _ u _) := hN
      have q0 := cell_keep hB KK.out.2.1.1
      have q1 := cell_keep hB KK.out.2.1.2
      have so : w1.heap.size < wr.heap.size := block_of_cell o0
      obtain ⟨au, cu, hu, _, _, _⟩ := hN.shape
      subst hu
      by_cases hlt : t < T
      · have hI : ((F + t : Nat) : Int) < (F : Int) + (T : Int) := by omega
        have HLT : Hid (t < T) := hlt
        have hft : ((F + t : Nat) : Int) ≤ 192 := by have := HFT.out; omega
        have hft0 : 0 ≤ ((F + t : Nat) : Int) := by omega
        have hR := fun w h hb => rise_page (.slice au (marks ((F : Int) / 8) (cnt F t)).length cu) ((F : Int) / 8) (((F + t : Nat) : Int) / 8) (cnt F t) (cnt F (t + 1)) (w1.heap.size + 1) w h hb (by have := cnt_le F t (by have := HFT.out; omega); omega) (by
          by_cases hc : t = 0 ∨ (F + t) % 8 = 0
          · have := cnt_new F t hc
            exact .inl ⟨by omega, this.2⟩
          · have := cnt_old F t hc
            exact .inr ⟨this.1, by omega, this.2.2⟩)
        have HNEXT : Hid (((F + t : Nat) : Int) + 1 = ((F + (t + 1) : Nat) : Int)) := by show _ = _; omega
        generalize ((F + t : Nat) : Int) = z at *
        generalize (marks ((F : Int) / 8) (cnt F t)).length = lu at *
        clear hN hB hlt
        go_wp2_with fail
        refine (hR _ HN.out (by omega)).mono ?_
        rintro e w5 ⟨u', rfl, n5, b5⟩
        have o0 := cell_keep b5 o0
        have o1 := cell_keep b5 o1
        have fo : w5.frozen? ⟨w1.heap.size, 1, none⟩ = false := by rw [b5.frozen (p := ⟨w1.heap.size, 1, none⟩) so]; exact fo
        have N5 : Hid (Nums w5 _ u' _) := n5
        have B5 : Hid (Below w1.heap.size w1 w5) := on HB.out b5
        have hu' : Hid (u'.ownBlock ≠ some w1.heap.size) := fun e => own_not n5 _ (.inl (by omega)) e.symm
        clear n5 b5 hR
        obtain ⟨a5, c5, rfl, _, _, _⟩ := N5.out.shape
        go_wp2_with fail
        go_roundw
        case rel =>
          refine ⟨t + 1, _, by have := HLT.out; omega, by rw [HNEXT.out], N5.out.put _ _ hu'.out, ?_, ?_, ?_, B5.out.setCell (Nat.le_refl _) _⟩
          · simp [go_sem, o0]
          · rw [World.cell?_setCell_same _ _ _ o1]
          · rw [World.frozen?_setCell]; exact fo
        case measure => have := HLT.out; have := HNEXT.out; simp [intOf]; omega
      · have hI : ¬ ((F + t : Nat) : Int) < (F : Int) + (T : Int) := by omega
        obtain rfl : t = T := by omega
        have k0 := cell_keep hB KK.out.1.1
        have k1 := cell_keep hB KK.out.1.2
        have f0 : wr.frozen? ⟨w.heap.size + 1, 0, none⟩ = false := by rw [hB.frozen (p := ⟨w.heap.size + 1, 0, none⟩) s1]; exact KK.out.2.2.1
        have f1 : wr.frozen? ⟨w.heap.size + 1, 1, none⟩ = false := by rw [hB.frozen (p := ⟨w.heap.size + 1, 1, none⟩) s1]; exact KK.out.2.2.2
        have hv : Hid ((Value.slice au (marks ((F : Int) / 8) (cnt F t)).length cu).ownBlock ≠ some (w.heap.size + 1)) := fun e => own_not hN _ (.inl (by have := S1.out; omega)) e.symm
        have NN : Hid (Nums wr w.heap.size _ (marks ((F : Int) / 8) (cnt F t))) := hN.mono (by have := S1.out; omega)
        have BB : Hid (Below w.heap.size w wr) := on B1.out HB.out
        clear hN hB
        go_wp2_with fail
        exact bodyPost_ret (v := .agg #[.int .i64 0, .slice au _ cu]) (by simp [results, Try.results45, go_sem, k0, k1]) rfl
          ⟨_, rfl, (NN.out.put _ _ hv.out).put _ _ hv.out, (BB.out.setCell (by simp) _).setCell (by simp) _⟩

set_option maxHeartbeats 2000000 in
theorem impl_pages (f s : Int) (w : World) :
    Calls Try.prog 46 #[.agg #[.int .i64 f, .int .i64 s]] w fun e w' => ∃ u, e = .returned (.agg #[.int .i64 (regV f s), u]) ∧ Nums w' w.heap.size u (pgZ f s) ∧ Below w.heap.size w w' := by
  have hF := fun w => impl_regFault f s w
  cases hreg : regB f s
  · have e2 : pgZ f s = [] := by simp [pgZ, hreg]
    rw [e2]
    rw [regV_false hreg] at hF ⊢
    clear e2
    go_enter Try.func46, Try.ntmps46
    go_wp2_with fail
    refine (hF _).mono ?_
    rintro e w1 ⟨rfl, b1⟩
    obtain ⟨c1, z1⟩ := bcell b1
    have k0 : w1.cell? ⟨w.heap.size + 1, 0, none⟩ = some (.int .i64 0) := cell_keep b1 (by simp)
    have k1 : w1.cell? ⟨w.heap.size + 1, 1, none⟩ = some (.slice none 0 0) := cell_keep b1 (by simp)
    have B1 : Hid (Below w.heap.size w w1) := on (al (al (Below.refl _ _) _) _) b1
    clear b1
    go_wp2_with fail
    exact bodyPost_ret (v := .agg #[.int .i64 3, .slice none 0 0]) (by simp [results, Try.results46, go_sem, k0, k1]) rfl ⟨_, rfl, Nums.nil _ _, (B1.out.setCell (by simp) _).setCell (by simp) _⟩
  · obtain ⟨r1, r2, r3, r4, r5⟩ := regB_true hreg
    obtain ⟨F, rfl⟩ : ∃ F : Nat, f = F := ⟨f.toNat, by omega⟩
    obtain ⟨T, rfl⟩ : ∃ T : Nat, s = T := ⟨s.toNat, by omega⟩
    have e2 : pgZ F T = marks ((F : Int) / 8) (cnt F T) := by simp [pgZ, hreg]
    rw [e2]
    rw [regV_true hreg] at hF ⊢
    clear e2 hreg r1 r3
    by_cases hT : T = 0
    · subst hT
      go_enter Try.func46, Try.ntmps46
      go_wp2_with fail
      refine (hF _).mono ?_
      rintro e w1 ⟨rfl, b1⟩
      obtain ⟨c1, z1⟩ := bcell b1
      have k0 : w1.cell? ⟨w.heap.size + 1, 0, none⟩ = some (.int .i64 0) := cell_keep b1 (by simp)
      have k1 : w1.cell? ⟨w.heap.size + 1, 1, none⟩ = some (.slice none 0 0) := cell_keep b1 (by simp)
      have q1 : w1.cell? ⟨w.heap.size, 1, none⟩ = some (.int .i64 0) := cell_keep b1 (by simp)
      have s1 : w.heap.size + 1 < w1.heap.size := block_of_cell k0
      have B1 : Hid (Below w.heap.size w w1) := on (al (al (Below.refl _ _) _) _) b1
      clear b1
      go_wp2_with fail
      exact bodyPost_ret (v := .agg #[.int .i64 0, .slice none 0 0]) (by simp [results, Try.results46, go_sem, k0, k1]) rfl ⟨_, rfl, by simpa [cnt, marks] using Nums.nil _ _, (B1.out.setCell (by simp) _).setCell (by simp) _⟩
    have hTI : ((T : Int) == 0) = false := by simp; omega
    have HT0 : Hid (1 ≤ T) := by show _ ≤ _; omega
    have HFT : Hid (F + T ≤ 192) := by show _ ≤ _; omega
    clear hT
    have hlast : Hid (((F : Int) + T - 1) / 8 = (F : Int) / 8 + (cnt F T : Nat) - 1) := by
      show _ = _
      have h1 := HT0.out
      unfold cnt
      rw [if_neg (by omega)]
      omega
    have hc25 := cnt_le F T HFT.out
    have HCN : Hid (1 ≤ cnt F T ∧ cnt F T ≤ 25) := ⟨by unfold cnt; have := HT0.out; rw [if_neg (by omega)]; omega, hc25⟩
    have hP0 : 0 ≤ (F : Int) / 8 := by omega
    have hP1 : (F : Int) / 8 ≤ 24 := by omega
    have hTpos : (1 : Int) ≤ T := by have := HT0.out; omega
    generalize cnt F T = N at *
    have HN25 : Hid (N ≤ 25) := hc25
    go_enter Try.func46, Try.ntmps46
    go_wp2_with fail
    refine (hF _).mono ?_
    rintro e w1 ⟨rfl, b1⟩
    have k0 : w1.cell? ⟨w.heap.size + 1, 0, none⟩ = some (.int .i64 0) := cell_keep b1 (by simp)
    have k1 : w1.cell? ⟨w.heap.size + 1, 1, none⟩ = some (.slice none 0 0) := cell_keep b1 (by simp)
    have q0 : w1.cell? ⟨w.heap.size, 0, none⟩ = some (.int .i64 F) := cell_keep b1 (by simp)
    have q1 : w1.cell? ⟨w.heap.size, 1, none⟩ = some (.int .i64 T) := cell_keep b1 (by simp)
    obtain ⟨c1, z1⟩ := bcell b1
    have f0 : w1.frozen? ⟨w.heap.size + 1, 0, none⟩ = false := by rw [z1 _ _ (by simp)]; simp
    have f1 : w1.frozen? ⟨w.heap.size + 1, 1, none⟩ = false := by rw [z1 _ _ (by simp)]; simp
    have B1 : Hid (Below w.heap.size w w1) := on (al (al (Below.refl _ _) _) _) b1
    have s1 : w.heap.size + 1 < w1.heap.size := block_of_cell k0
    have S1 : Hid (w.heap.size + 1 < w1.heap.size) := s1
    have KK : Hid ((w1.cell? ⟨w.heap.size + 1, 0, none⟩ = some (.int .i64 0) ∧ w1.cell? ⟨w.heap.size + 1, 1, none⟩ = some (.slice none 0 0)) ∧ w1.frozen? ⟨w.heap.size + 1, 0, none⟩ = false ∧ w1.frozen? ⟨w.heap.size + 1, 1, none⟩ = false) := ⟨⟨k0, k1⟩, f0, f1⟩
    clear b1 c1 z1 hF
    go_wp2_with fail
    clear k0 k1 q0 q1 f0 f1
    go_loopw [4, 6] (fun u c wr => ∃ j : Nat, j ≤ N ∧ c = .int .i64 (((F : Int) / 8) + j) ∧ Nums wr w1.heap.size u (marks ((F : Int) / 8) j) ∧ Below w1.heap.size w1 wr) (fun _ c _ => (((F : Int) / 8) + N - intOf c).toNat)
    case atStart => exact ⟨0, Nat.zero_le _, by simp, Nums.nil _ _, Below.refl _ _⟩
    case round =>
      obtain ⟨j, hj, rfl, hN, hB⟩ := hrel
      have HB : Hid (Below _ _ _) := hB
      have HN : Hid (Nums wr _ _ _) := hN
      have SW : Hid (w1.heap.size ≤ wr.heap.size) := hB.size
      by_cases hlt : j < N
      · have hI : ((F : Int) / 8) + j ≤ ((F : Int) + T - 1) / 8 := by have := hlast.out; omega
        have HLT : Hid (j < N) := hlt
        have HPJ : Hid (((F : Int) / 8) + (j : Int) + 1 = ((F : Int) / 8) + ((j + 1 : Nat) : Int)) := by show _ = _; omega
        have hpj0 : 0 ≤ ((F : Int) / 8) + (j : Int) := by omega
        have hpj1 : ((F : Int) / 8) + (j : Int) ≤ 1000 := by have := HN25.out; omega
        have HMS : Hid (marks ((F : Int) / 8) j ++ [((F : Int) / 8) + (j : Int)] = marks ((F : Int) / 8) (j + 1)) := marks_succ ((F : Int) / 8) j
        generalize ((F : Int) / 8) + (j : Int) = z at *
        clear hN hB hlt
        go_wp2_with (at_builtin; refine wp_append _ rfl _ _ rfl w1.heap.size _ _ rfl (HN.out.keep (al (Below.refl _ _) _)) wr.heap.size 1 1 [z] rfl rfl (one_of (cell_new rfl)) (by have := HLT.out; have := HN25.out; rw [marks_length]; omega) (by have := SW.out; simp; omega) ?_; intro v' w' hN' hG')
        have N' : Hid (Nums w' _ v' _) := hN'
        have B' : Hid (Below w1.heap.size w1 w') := (al HB.out _).grown hG' (by have := SW.out; simp; omega) (fun k hk => (HN.out.lt k hk).1)
        clear hN' hG'
        go_wp2_with fail
        go_roundw
        case rel => exact ⟨j + 1, by have := HLT.out; omega, by rw [HPJ.out], by rw [← HMS.out]; exact N'.out, B'.out⟩
        case measure => have := HLT.out; have := HPJ.out; simp [intOf]; omega
      · have hI : ¬ ((F : Int) / 8) + j ≤ ((F : Int) + T - 1) / 8 := by have := hlast.out; omega
        obtain rfl : j = N := by omega
        have k0 := cell_keep hB KK.out.1.1
        have k1 := cell_keep hB KK.out.1.2
        have f0 : wr.frozen? ⟨w.heap.size + 1, 0, none⟩ = false := by rw [hB.frozen (p := ⟨w.heap.size + 1, 0, none⟩) s1]; exact KK.out.2.1
        have f1 : wr.frozen? ⟨w.heap.size + 1, 1, none⟩ = false := by rw [hB.frozen (p := ⟨w.heap.size + 1, 1, none⟩) s1]; exact KK.out.2.2
        obtain ⟨au, cu, rfl, _, _, _⟩ := hN.shape
        have hv : Hid ((Value.slice au (marks ((F : Int) / 8) j).length cu).ownBlock ≠ some (w.heap.size + 1)) := fun e => own_not hN _ (.inl (by have := S1.out; omega)) e.symm
        have NN : Hid (Nums wr w.heap.size _ (marks ((F : Int) / 8) j)) := hN.mono (by have := S1.out; omega)
        have BB : Hid (Below w.heap.size w wr) := on B1.out HB.out
        clear hN hB
        go_wp2_with fail
        exact bodyPost_ret (v := .agg #[.int .i64 0, .slice au _ cu]) (by simp [results, Try.results46, go_sem, k0, k1]) rfl
          ⟨_, rfl, (NN.out.put _ _ hv.out).put _ _ hv.out, (BB.out.setCell (by simp) _).setCell (by simp) _⟩
end Go.Proofs.Ytedjnokeknmbaaa
