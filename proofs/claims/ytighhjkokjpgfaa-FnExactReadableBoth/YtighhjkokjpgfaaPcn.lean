/- ReadableBoth by the model, and both functions themselves. -/
import Derived.Test.YtighhjkokjpgfaaPcm
namespace Go.Proofs.Ytighhjkokjpgfaa
open Go.RowKit
set_option linter.unusedVariables false

/-- What one round leaves: the list of numbers that grew stands in the answer under way. -/
structure GrewN (w : World) (S : Nat) (z : Value) (L : List Int) (w' : World) : Prop where
  prs : Nums w' (S + 2) z L
  r0 : w'.cell? ⟨S, 0, none⟩ = some (.int .i64 0)
  r1 : w'.cell? ⟨S, 1, none⟩ = some (.slice none 0 0)
  f0 : w'.frozen? ⟨S, 0, none⟩ = false
  f1 : w'.frozen? ⟨S, 1, none⟩ = false
  o0 : w'.cell? ⟨S + 1, 0, none⟩ = some (.int .i64 0)
  o1 : w'.cell? ⟨S + 1, 1, none⟩ = some z
  g1 : w'.frozen? ⟨S + 1, 1, none⟩ = false
  below : Below w.heap.size w w'

theorem GrewN.keep {w w1 w2 : World} {S : Nat} {z : Value} {L : List Int} (h : GrewN w S z L w1) (b : Below w1.heap.size w1 w2) : GrewN w S z L w2 := by
  have s1 : S + 1 < w1.heap.size := block_of_cell h.o0
  exact ⟨h.prs.keep b, cell_keep b h.r0, cell_keep b h.r1, by rw [b.frozen (p := ⟨S, 0, none⟩) (by show S < _; omega)]; exact h.f0, by rw [b.frozen (p := ⟨S, 1, none⟩) (by show S < _; omega)]; exact h.f1,
    cell_keep b h.o0, cell_keep b h.o1, by rw [b.frozen (p := ⟨S + 1, 1, none⟩) s1]; exact h.g1, on h.below b⟩

theorem GrewN.grown {w w1 w2 : World} {S : Nat} {z z' : Value} {L : List Int} {r : Int} (h : GrewN w S z L w1) (hp : Nums w2 (S + 2) z' (L ++ [r])) (g : w1.grownBy w2 z.ownBlock) (hS : w.heap.size ≤ S) :
    GrewN w S z' (L ++ [r]) (w2.setCell ⟨S + 1, 1, none⟩ z') ∧ w2.cell? ⟨S + 1, 1, none⟩ = some z ∧ w2.frozen? ⟨S + 1, 1, none⟩ = false := by
  have s1 : S + 1 < w1.heap.size := block_of_cell h.o0
  have n0 : some S ≠ z.ownBlock := own_not h.prs _ (.inl (by omega))
  have n1 : some (S + 1) ≠ z.ownBlock := own_not h.prs _ (.inl (by omega))
  have r0 := cell_grown g h.r0 n0
  have r1 := cell_grown g h.r1 n0
  have o0 := cell_grown g h.o0 n1
  have o1 := cell_grown g h.o1 n1
  have f0 : w2.frozen? ⟨S, 0, none⟩ = false := by rw [frozen_grown (p := ⟨S, 0, none⟩) g (by show S < _; omega) n0]; exact h.f0
  have f1 : w2.frozen? ⟨S, 1, none⟩ = false := by rw [frozen_grown (p := ⟨S, 1, none⟩) g (by show S < _; omega) n0]; exact h.f1
  have g1 : w2.frozen? ⟨S + 1, 1, none⟩ = false := by rw [frozen_grown (p := ⟨S + 1, 1, none⟩) g s1 n1]; exact h.g1
  have b2 : Below w.heap.size w w2 := h.below.grown g h.below.size (fun k hk => by have := (h.prs.lt k hk).1; omega)
  refine ⟨⟨hp.put _ _ (fun e => own_not hp (S + 1) (.inl (by omega)) e.symm), by simp [go_sem, r0], by simp [go_sem, r1], by rw [World.frozen?_setCell]; exact f0, by rw [World.frozen?_setCell]; exact f1, by simp [go_sem, o0], by rw [World.cell?_setCell_same _ _ _ o1], by rw [World.frozen?_setCell]; exact g1, b2.setCell (by show w.heap.size ≤ S + 1; omega) _⟩, o1, g1⟩

set_option maxHeartbeats 4000000 in
theorem spec_common (v u : Value) (rs qs : List (Int × Int)) (b b' : Nat) (w : World) (h : Prs 86 w b v rs) (k : Prs 86 w b' u qs) (hm : rs.length ≤ 1048576) (km : qs.length ≤ 1048576) :
    Calls Try.prog 95 #[v, u, .bool false] w fun e w' => ∃ y, e = .returned (.agg #[.int .i64 (twoV rs 24 qs), y]) ∧ Nums w' w.heap.size y (redZ rs qs) ∧ Below w.heap.size w w' := by
  have hF := fun w1 (q : Below w.heap.size w w1) => spec_fault v rs 24 b w1 (h.keep q) hm
  have kF := fun w1 (q : Below w.heap.size w w1) => spec_fault u qs 24 b' w1 (k.keep q) km
  by_cases hc : pgsV rs 24 = 0
  case neg =>
    have e1 : twoV rs 24 qs = pgsV rs 24 := if_neg hc
    have e2 : redZ rs qs = [] := if_neg (by rw [e1]; exact hc)
    rw [e1, e2]
    have g : (pgsV rs 24 != 0) = true := by simpa using hc
    clear e1 e2 hc kF
    generalize pgsV rs 24 = c at *
    obtain ⟨a, cap, rfl, _, _, _⟩ := h.shape
    obtain ⟨a', cap', rfl, _, _, _⟩ := k.shape
    clear h k
    go_enter Try.func95, Try.ntmps95
    go_wp2_with fail
    refine (hF _ (al (Below.refl _ _) _)).mono ?_
    rintro e w1 ⟨rfl, rfl⟩
    clear hF
    go_wp2_with fail
    exact bodyPost_ret (v := .agg #[.int .i64 c, .slice none 0 0]) (by simp [results, Try.results95, go_sem]) rfl ⟨_, rfl, Nums.nil _ _, al (Below.refl _ _) _⟩
  rw [hc] at hF
  by_cases kc : pgsV qs 24 = 0
  case neg =>
    have e1 : twoV rs 24 qs = pgsV qs 24 := if_pos hc
    have e2 : redZ rs qs = [] := if_neg (by rw [e1]; exact kc)
    rw [e1, e2]
    have g : (pgsV qs 24 != 0) = true := by simpa using kc
    clear e1 e2 hc kc
    generalize pgsV qs 24 = c at *
    obtain ⟨a, cap, rfl, _, _, _⟩ := h.shape
    obtain ⟨a', cap', rfl, _, _, _⟩ := k.shape
    clear h k
    go_enter Try.func95, Try.ntmps95
    go_wp2_with fail
    refine (hF _ (al (Below.refl _ _) _)).mono ?_
    rintro e w1 ⟨rfl, rfl⟩
    clear hF
    go_wp2_with fail
    refine (kF _ (al (Below.refl _ _) _)).mono ?_
    rintro e w1 ⟨rfl, rfl⟩
    clear kF
    go_wp2_with fail
    exact bodyPost_ret (v := .agg #[.int .i64 c, .slice none 0 0]) (by simp [results, Try.results95, go_sem]) rfl ⟨_, rfl, Nums.nil _ _, al (Below.refl _ _) _⟩
  have e1 : twoV rs 24 qs = 0 := by rw [twoV, if_pos hc, kc]
  have e2 : redZ rs qs = redL rs qs 24 := if_pos e1
  rw [e1, e2]
  rw [kc] at kF
  have HP : Hid (Prs 86 w b v rs) := h
  have KP : Hid (Prs 86 w b' u qs) := k
  have hLd := fun to w1 (q : Below w.heap.size w w1) => spec_kinds v rs to b w1 (HP.out.keep q) hm
  have kLd := fun to w1 (q : Below w.heap.size w w1) => spec_kinds u qs to b' w1 (KP.out.keep q) km
  obtain ⟨a, cap, hv, _, _, _⟩ := h.shape
  obtain ⟨a', cap', hu, _, _, _⟩ := k.shape
  generalize rs.length = n at hv
  generalize qs.length = n' at hu
  subst hv hu
  clear h k hc kc e1 e2 hm km
  go_enter Try.func95, Try.ntmps95
  go_wp2_with fail
  refine (hF _ (al (Below.refl _ _) _)).mono ?_
  rintro e w1 ⟨rfl, rfl⟩
  clear hF
  go_wp2_with fail
  refine (kF _ (al (Below.refl _ _) _)).mono ?_
  rintro e w1 ⟨rfl, rfl⟩
  clear kF
  go_wp2_with fail
  go_loopw [10, 11, 12] (fun c _ _ wr => ∃ (j : Nat) (z : Value), j ≤ 24 ∧ c = .int .i64 j ∧ GrewN w w.heap.size z (redL rs qs j) wr) (fun c _ _ _ => 24 - (intOf c).toNat)
  case atStart => exact ⟨0, .slice none 0 0, Nat.zero_le _, rfl, ⟨Nums.nil _ _, by simp, by simp, by simp, by simp, by simp, by simp, by simp, al (al (Below.refl _ _) _) _⟩⟩
  case round =>
    obtain ⟨j, z, hj, rfl, hG⟩ := hrel
    have GR : Hid (GrewN w w.heap.size z (redL rs qs j) wr) := hG
    obtain ⟨ya, yc, hz, _, _, _⟩ := hG.prs.shape
    have HLN : Hid ((redL rs qs j).length ≤ 24 ∧ (redL rs qs j).length ≤ 24) := ⟨by have := red_len rs qs j; omega, by have := red_len rs qs j; omega⟩
    generalize hun : (redL rs qs j).length = un at *
    subst hz
    by_cases hlt : j < 24
    · have BW : Hid (Below w.heap.size w wr) := hG.below
      have o1 := hG.o1
      have s1 : w.heap.size + 1 < wr.heap.size := block_of_cell o1
      have hI : (j : Int) < 24 := by omega
      have HL : Hid (j < 24) := hlt
      have hA := hLd (j : Int) wr BW.out
      have kA := kLd (j : Int) wr BW.out
      have HS := red_succ rs qs j
      have hBB : bothB rs qs j = (kndV rs j != 0 && kndV qs j != 0) := rfl
      generalize bothB rs qs j = bb at *
      generalize kndV rs j = x1 at *
      generalize kndV qs j = x2 at *
      clear hG hlt
      by_cases h1 : x1 = 0
      · have hbb : bb = false := by rw [hBB, h1]; rfl
        subst hbb h1
        have HS2 : Hid (redL rs qs (j + 1) = redL rs qs j) := by show _ = _; rw [HS]; simp
        clear HS hBB
        go_wp2_with fail
        refine hA.mono ?_
        rintro e w5 ⟨rfl, rfl⟩
        clear hA
        go_wp2_with fail
        refine kA.mono ?_
        rintro e w6 ⟨rfl, rfl⟩
        clear kA
        go_wp2_with fail
        go_roundw
        case rel => exact ⟨j + 1, _, by have := HL.out; omega, by go_num, by rw [HS2.out]; exact GR.out⟩
        case measure => have := HL.out; simp [intOf]; omega
      have g1 : (x1 != 0) = true := by simpa using h1
      by_cases h2 : x2 = 0
      · have hbb : bb = false := by rw [hBB, h2]; simp
        subst hbb h2
        have HS2 : Hid (redL rs qs (j + 1) = redL rs qs j) := by show _ = _; rw [HS]; simp
        clear HS hBB
        go_wp2_with fail
        refine hA.mono ?_
        rintro e w5 ⟨rfl, rfl⟩
        clear hA
        go_wp2_with fail
        refine kA.mono ?_
        rintro e w6 ⟨rfl, rfl⟩
        clear kA
        go_wp2_with fail
        go_roundw
        case rel => exact ⟨j + 1, _, by have := HL.out; omega, by go_num, by rw [HS2.out]; exact GR.out⟩
        case measure => have := HL.out; simp [intOf]; omega
      have g2 : (x2 != 0) = true := by simpa using h2
      have hbb : bb = true := by rw [hBB, g1, g2]; rfl
      subst hbb
      have HS2 : Hid (redL rs qs (j + 1) = redL rs qs j ++ [(j : Int)]) := by show _ = _; rw [HS]; simp
      clear HS hBB h1 h2
      go_wp2_with fail
      refine hA.mono ?_
      rintro e w5 ⟨rfl, rfl⟩
      clear hA
      go_wp2_with fail
      refine kA.mono ?_
      rintro e w6 ⟨rfl, rfl⟩
      clear kA
      go_wp2_with (at_builtin; refine wp_app _ rfl _ _ rfl (w.heap.size + 2) (.slice ya un yc) _ rfl (GR.out.keep (al (Below.refl _ _) _)).prs w6.heap.size 1 1 [(j : Int)] rfl rfl (one_at (cell_new rfl)) (by rw [hun]; have := HLN.out; omega) (by simp; omega) ?_; intro v' w' hP' hG'; obtain ⟨va, vc, hv', _, _, _⟩ := hP'.shape; generalize hvn : List.length _ = vn at hv'; clear hvn; subst hv'; have GG := (GR.out.keep (al (Below.refl _ _) _)).grown hP' hG' (Nat.le_refl _); have GF : Hid _ := GG.1; have o1 := GG.2.1; have g1 := GG.2.2; clear GG hP' hG')
      go_roundw
      case rel => exact ⟨j + 1, _, by have := HL.out; omega, by go_num, by rw [HS2.out]; exact GF.out⟩
      case measure => have := HL.out; simp [intOf]; omega
    · have hI : ¬ (j : Int) < 24 := by omega
      obtain rfl : j = 24 := by omega
      have hv : Hid (some w.heap.size ≠ (Value.slice ya un yc).ownBlock) := own_not GR.out.prs _ (.inl (by omega))
      obtain ⟨_, r0, r1, f0, f1, o0, o1, g1, _⟩ := GR.out
      clear hG
      go_wp2_with fail
      exact bodyPost_ret (v := .agg #[.int .i64 0, .slice ya un yc]) (by simp [results, Try.results95, go_sem, r0, r1]) rfl ⟨_, rfl, ((GR.out.prs.put _ _ (fun e => hv.out e.symm)).put _ _ (fun e => hv.out e.symm)).mono (by omega), (GR.out.below.setCell (by simp) _).setCell (by simp) _⟩

set_option maxHeartbeats 1000000 in
theorem spec_readable (v u : Value) (rs qs : List (Int × Int)) (b b' : Nat) (w : World) (h : Prs 86 w b v rs) (k : Prs 86 w b' u qs) (hm : rs.length ≤ 1048576) (km : qs.length ≤ 1048576) :
    Calls Try.prog 44 #[v, u] w fun e w' => ∃ y, e = .returned (.agg #[.int .i64 (twoV rs 24 qs), y]) ∧ Nums w' w.heap.size y (redZ rs qs) ∧ Below w.heap.size w w' := by
  have hF := fun w1 (q : Below w.heap.size w w1) => spec_common v u rs qs b b' w1 (h.keep q) (k.keep q) hm km
  obtain ⟨a, cap, rfl, _, _, _⟩ := h.shape
  obtain ⟨a', cap', rfl, _, _, _⟩ := k.shape
  generalize twoV rs 24 qs = c at *
  generalize redZ rs qs = Z at *
  clear h k
  go_enter Try.func44, Try.ntmps44
  go_wp2_with fail
  refine (hF _ (al (Below.refl _ _) _)).mono ?_
  rintro e w1 ⟨y, rfl, n1, b1⟩
  obtain ⟨ya, yc, rfl, _, _, _⟩ := n1.shape
  have k0 := cell_keep b1 (cell_new (i := 0) rfl)
  have k1 := cell_keep b1 (cell_new (i := 1) rfl)
  have B1 : Hid (Below w.heap.size w w1) := on (al (Below.refl _ _) _) b1
  have z0 : w1.frozen? ⟨w.heap.size, 0, none⟩ = false := by rw [(bcell b1).2 _ _ (by simp)]; simp
  have z1 : w1.frozen? ⟨w.heap.size, 1, none⟩ = false := by rw [(bcell b1).2 _ _ (by simp)]; simp
  have N1 : Hid (Nums w1 _ _ Z) := n1
  have hv : Hid (some w.heap.size ≠ (Value.slice ya Z.length yc).ownBlock) := own_not n1 _ (.inl (by simp))
  clear b1 n1 hF
  go_wp2_with fail
  exact bodyPost_ret (v := .agg #[.int .i64 c, .slice ya Z.length yc]) (by simp [results, Try.results44, go_sem, k0, k1]) rfl ⟨_, rfl, ((N1.out.put _ _ (fun e => hv.out e.symm)).put _ _ (fun e => hv.out e.symm)).mono (by simp), (B1.out.setCell (by simp) _).setCell (by simp) _⟩

set_option maxHeartbeats 1000000 in
theorem impl_readable (v u : Value) (rs qs : List (Int × Int)) (b b' : Nat) (w : World) (h : Prs 86 w b v rs) (k : Prs 86 w b' u qs) (hm : rs.length ≤ 1048576) (km : qs.length ≤ 1048576) :
    Calls Try.prog 45 #[v, u] w fun e w' => ∃ y, e = .returned (.agg #[.int .i64 (twoV rs 24 qs), y]) ∧ Nums w' w.heap.size y (redZ rs qs) ∧ Below w.heap.size w w' := by
  have hF := fun w1 (q : Below w.heap.size w w1) => impl_common v u rs qs b b' w1 (h.keep q) (k.keep q) hm km
  obtain ⟨a, cap, rfl, _, _, _⟩ := h.shape
  obtain ⟨a', cap', rfl, _, _, _⟩ := k.shape
  generalize twoV rs 24 qs = c at *
  generalize redZ rs qs = Z at *
  clear h k
  go_enter Try.func45, Try.ntmps45
  go_wp2_with fail
  refine (hF _ (al (Below.refl _ _) _)).mono ?_
  rintro e w1 ⟨y, rfl, n1, b1⟩
  obtain ⟨ya, yc, rfl, _, _, _⟩ := n1.shape
  have k0 := cell_keep b1 (cell_new (i := 0) rfl)
  have k1 := cell_keep b1 (cell_new (i := 1) rfl)
  have B1 : Hid (Below w.heap.size w w1) := on (al (Below.refl _ _) _) b1
  have z0 : w1.frozen? ⟨w.heap.size, 0, none⟩ = false := by rw [(bcell b1).2 _ _ (by simp)]; simp
  have z1 : w1.frozen? ⟨w.heap.size, 1, none⟩ = false := by rw [(bcell b1).2 _ _ (by simp)]; simp
  have N1 : Hid (Nums w1 _ _ Z) := n1
  have hv : Hid (some w.heap.size ≠ (Value.slice ya Z.length yc).ownBlock) := own_not n1 _ (.inl (by simp))
  clear b1 n1 hF
  go_wp2_with fail
  exact bodyPost_ret (v := .agg #[.int .i64 c, .slice ya Z.length yc]) (by simp [results, Try.results45, go_sem, k0, k1]) rfl ⟨_, rfl, ((N1.out.put _ _ (fun e => hv.out e.symm)).put _ _ (fun e => hv.out e.symm)).mono (by simp), (B1.out.setCell (by simp) _).setCell (by simp) _⟩
end Go.Proofs.Ytighhjkokjpgfaa
