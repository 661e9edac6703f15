/- One word is written, by the model. -/
import Derived.Test.YtedjnokeknmbaaaLoad
namespace Go.Proofs.Ytedjnokeknmbaaa
open Go.RowKit
set_option linter.unusedVariables false

theorem spec_wrapW (n : Int) (w : World) : Calls Try.prog 58 #[.int .i64 n] w fun e w' => e = .returned (.int .i64 (wd n)) ∧ w' = w := by
  go_enter Try.func58, Try.ntmps58
  go_wp2
  go_ret
  exact ⟨rfl, rfl⟩

theorem Nums.empty (w : World) (base : Nat) (hb : base ≤ w.heap.size) : Nums (w.alloc (.cells #[] 2)) base (.slice (some ⟨w.heap.size, 0, none⟩) 0 0) [] :=
  World.ownsRow_lit w #[] 0 hb (by decide) rfl

set_option maxHeartbeats 1000000 in
theorem spec_copy (g cap : Nat) (zs : List Int) (b : Nat) (w : World) (h : Nums w b (.slice (some ⟨g, 0, none⟩) zs.length cap) zs) (hn : zs.length ≤ 1000000) :
    Calls Try.prog 57 #[.slice (some ⟨g, 0, none⟩) zs.length cap] w fun e w' => ∃ v, e = .returned v ∧ Nums w' w.heap.size v zs ∧ Below w.heap.size w w' := by
  have HZ : Hid (Nums w b _ zs) := h
  obtain ⟨n, hn2⟩ : ∃ n, zs.length = n := ⟨_, rfl⟩
  rw [hn2] at HZ hn ⊢
  have HL : Hid (zs.length = n ∧ n ≤ 1000000) := ⟨hn2, hn⟩
  clear h hn2 hn
  go_enter Try.func57, Try.ntmps57
  go_wp2_with (at_builtin; refine wp_append _ rfl _ _ rfl w.heap.size _ _ rfl (Nums.empty w w.heap.size (Nat.le_refl _)) g n cap zs rfl HL.out.1 (fun i hi => cell_push _ (HZ.out.cell HL.out.1.symm i hi)) (by have := HL.out; simp; omega) (by simp) ?_; intro v' w' hN' hG')
  have N' : Hid (Nums w' w.heap.size v' zs) := by rw [List.nil_append] at hN'; exact hN'
  have B' : Hid (Below w.heap.size w w') := (al (Below.refl _ _) _).grown hG' (by simp) (fun k hk => Nat.le_of_eq (Option.some.inj hk))
  clear hN' hG'
  go_wp2_with fail
  go_ret
  exact ⟨_, rfl, N'.out, B'.out⟩

theorem can_one (n : Nat) (at_ : Int) : canB n at_ 1 = inB n at_ := by
  rw [Bool.eq_iff_iff]
  simp [canB, placesB, inB]
  omega

set_option maxHeartbeats 2000000 in
theorem spec_write (v : Value) (zs : List Int) (at_ x : Int) (b : Nat) (w : World) (h : Nums w b v zs) (h1 : -9223372036854775808 ≤ at_) (h2 : at_ ≤ 9223372036854775807) :
    Calls Try.prog 17 #[v, .int .i64 at_, .int .i64 x] w fun e w' => ∃ u, e = .returned (.agg #[.int .i64 (loadC zs at_ [x]), u]) ∧ Nums w' w.heap.size u (loadZ zs at_ [x]) ∧ Below w.heap.size w w' := by
  have HZ : Hid (Nums w b v zs) := h
  obtain ⟨a, cap, rfl, l1, l2, hg⟩ := h.shape
  clear h
  have hmf := fun w b h => spec_memFault (.slice a zs.length cap) zs b w h
  by_cases hm : memV zs = 0
  · obtain ⟨n0, n1, n2, n3⟩ := memV_len hm
    obtain ⟨g, rfl⟩ := hg (by omega)
    rw [hm] at hmf
    have hL : (zs.length : Int) ≤ 1048576 := by omega
    cases hi : inB zs.length at_
    · have hc : canB zs.length at_ [x].length = false := by rw [List.length_singleton, can_one]; exact hi
      have e1 : loadC zs at_ [x] = 8 := by simp only [loadC, hm, hc]; rfl
      have e2 : loadZ zs at_ [x] = [] := by simp only [loadZ, hm, hc]; rfl
      rw [e1, e2]
      clear e1 e2 hm hc n3 n0 n1 n2 l1 l2 hg
      generalize zs.length = n at *
      go_enter Try.func17, Try.ntmps17
      go_wp2_with (first
        | (go_at_call 23; refine (hmf _ b (HZ.out.keep (al (Below.refl _ _) _))).mono ?_; rintro e wx ⟨rfl, rfl⟩)
        | (go_at_call 56; refine (spec_at _ _ _ _ _ hL).mono ?_; rintro e wx ⟨rfl, rfl⟩; rw [hi]))
      exact bodyPost_ret (v := .agg #[.int .i64 8, .slice none 0 0]) (by simp [results, Try.results17, go_sem]) rfl ⟨_, rfl, Nums.nil _ _, al (Below.refl _ _) _⟩
    · have hc : canB zs.length at_ [x].length = true := by rw [List.length_singleton, can_one]; exact hi
      obtain ⟨i0, i1⟩ : 0 ≤ at_ ∧ at_ ≤ (zs.length : Int) - 1 := by simpa [inB] using hi
      obtain ⟨k, rfl⟩ : ∃ k : Nat, at_ = k := ⟨at_.toNat, by omega⟩
      have e1 : loadC zs k [x] = 0 := by simp only [loadC, hm, hc]; rfl
      have e2 : loadZ zs k [x] = zs.set k (wd x) := by simp only [loadZ, hm, hc]; rfl
      rw [e1, e2]
      have hcopy := fun w b h => spec_copy g cap zs b w h (by omega)
      have hI : (k : Int) < (zs.length : Int) := by omega
      have HK : Hid (k < zs.length) := by show _ < _; omega
      obtain ⟨n, hn⟩ : ∃ n, zs.length = n := ⟨_, rfl⟩
      have HN : Hid (zs.length = n) := hn
      rw [hn] at hI hL hcopy hmf HZ hi ⊢
      clear e1 e2 hm hc n3 n0 n1 n2 l1 l2 hg hn i0 i1
      go_enter Try.func17, Try.ntmps17
      go_wp2_with (first
        | (go_at_call 23; refine (hmf _ b (HZ.out.keep (al (Below.refl _ _) _))).mono ?_; rintro e wx ⟨rfl, rfl⟩)
        | (go_at_call 56; refine (spec_at _ _ _ _ _ hL).mono ?_; rintro e wx ⟨rfl, rfl⟩; rw [hi]))
      refine (hcopy _ b (HZ.out.keep (al (Below.refl _ _) _))).mono ?_
      rintro e w2 ⟨u, rfl, nx, bx⟩
      obtain ⟨c1, z1⟩ := bcell bx
      have k0 : w2.cell? ⟨w.heap.size, 0, none⟩ = some (.int .i64 0) := cell_keep bx (cell_new rfl)
      have k1 : w2.cell? ⟨w.heap.size, 1, none⟩ = some (.slice none 0 0) := cell_keep bx (cell_new rfl)
      have N2 : Hid (Nums w2 _ u zs) := nx
      have B2 : Hid (Below w.heap.size w w2) := on (al (Below.refl _ _) _) bx
      obtain ⟨ax, capx, hu, _, _, hgx⟩ := nx.shape
      obtain ⟨gx, rfl⟩ := hgx (by have := HK.out; omega)
      rw [HN.out] at hu
      subst hu
      have hgx2 := (nx.lt gx rfl).1
      have HG : Hid (w.heap.size < gx) := by show _ < _; simp at hgx2; omega
      have hne : ¬ w.heap.size = gx := by have := HG.out; omega
      have hne2 : ¬ gx = w.heap.size := by omega
      have q1 := nx.cell HN.out.symm k (by have := HK.out; have := HN.out; omega)
      have q2 := nx.free HN.out.symm k
      clear nx bx hcopy hmf hgx2 hgx
      go_wp2_with (go_at_call 58; refine (spec_wrapW _ _).mono ?_; rintro e wx ⟨rfl, rfl⟩)
      have N3 := (N2.out.store k (wd x)).1
      have B3 := B2.out.setCell (p := ⟨gx, k, none⟩) (by have := HG.out; simp; omega) (.int .i64 (wd x))
      exact bodyPost_ret (v := .agg #[.int .i64 0, .slice (some ⟨gx, 0, none⟩) n capx]) (by simp [results, Try.results17, go_sem, k0, k1]) rfl
        ⟨_, rfl, ((N3.mono (base' := w.heap.size) (by simp)).put _ _ (by simp [Value.ownBlock]; omega)).put _ _ (by simp [Value.ownBlock]; omega), (B3.setCell (by simp) _).setCell (by simp) _⟩
  · have e1 : loadC zs at_ [x] = memV zs := by simp only [loadC, if_neg hm]
    have e2 : loadZ zs at_ [x] = [] := by simp only [loadZ, if_neg hm]
    rw [e1, e2]
    generalize memV zs = f at *
    have hf : (f != 0) = true := by simpa using hm
    clear e1 e2 hm hg l1 l2
    generalize zs.length = n at *
    go_enter Try.func17, Try.ntmps17
    go_wp2_with (go_at_call 23; refine (hmf _ b (HZ.out.keep (al (Below.refl _ _) _))).mono ?_; rintro e wx ⟨rfl, rfl⟩)
    exact bodyPost_ret (v := .agg #[.int .i64 f, .slice none 0 0]) (by simp [results, Try.results17, go_sem]) rfl ⟨_, rfl, Nums.nil _ _, al (Below.refl _ _) _⟩
end Go.Proofs.Ytedjnokeknmbaaa
