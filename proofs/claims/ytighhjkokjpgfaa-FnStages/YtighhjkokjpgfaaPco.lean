/- ComposePages by the program. -/
import Derived.Test.YtighhjkokjpgfaaPgt
import Derived.Test.YtighhjkokjpgfaaPgy
namespace Go.Proofs.Ytighhjkokjpgfaa
open Go.RowKit
set_option linter.unusedVariables false

theorem band_zeroR (k : Int) : bits BinOp.and .i64 k 0 = 0 := by
  show IntKind.i64.wrap ((BitVec.ofInt 64 k &&& BitVec.ofInt 64 0).toNat : Int) = 0
  rw [BitVec.toNat_and]
  simp [IntKind.wrap_i64]

/-- The page that leads at once where a page and a list lead. -/
def cmpP (qs : List (Int × Int)) (r : Int × Int) : Int × Int := if r.1 = -1 then (-1, 0) else forP (qs.getD r.1.toNat (0, 0)).1 (bits BinOp.and .i64 r.2 (qs.getD r.1.toNat (0, 0)).2)
def cmpL (rs qs : List (Int × Int)) : List (Int × Int) := if twoV rs 8 qs = 0 then rs.map (cmpP qs) else []

set_option maxHeartbeats 1000000 in
theorem impl_composed (a b : Int) (u : Value) (qs : List (Int × Int)) (b' : Nat) (w : World) (h : Prs 86 w b' u qs) (hl : qs.length = 8) (ha : pgC 8 a b = 0) :
    Calls Try.prog 63 #[.agg #[.int .i64 a, .int .i64 b], u] w fun e w' => e = .returned (.agg #[.int .i64 (cmpP qs (a, b)).1, .int .i64 (cmpP qs (a, b)).2]) ∧ Below w.heap.size w w' := by
  obtain ⟨p1, p2, p3, p4, p5⟩ := pgC_zero ha
  obtain ⟨ad, cap, rfl, _, _, hg⟩ := h.shape
  rw [hl]
  by_cases h1 : a = -1
  · have hb := p5 h1
    subst h1 hb
    have e : cmpP qs (-1, 0) = (-1, 0) := if_pos rfl
    rw [e]
    clear e h p1 p2 p3 p4 p5 hg
    go_enter Try.func63, Try.ntmps63
    go_wp2_with fail
    exact bodyPost_ret (v := .agg #[.int .i64 (-1), .int .i64 0]) (by simp [results, Try.results63, go_sem]) rfl ⟨rfl, al (al (Below.refl _ _) _) _⟩
  · have g1 : (a == -1) = false := beq_eq_false_iff_ne.2 h1
    obtain ⟨A, rfl⟩ : ∃ A : Nat, a = A := ⟨a.toNat, by omega⟩
    obtain ⟨g, rfl⟩ := hg (by omega)
    have hA : A < 8 := by omega
    have e : cmpP qs (A, b) = forP (qs.getD A (0, 0)).1 (bits BinOp.and .i64 b (qs.getD A (0, 0)).2) := by rw [cmpP, if_neg h1]; rfl
    rw [e]
    have c1 := (h.cell rfl A (by omega)).1
    have c2 := (h.cell rfl A (by omega)).2
    have gb : g < w.heap.size := block_of_cell c1
    have hF := fun w => impl_pageFor (qs.getD A (0, 0)).1 (bits BinOp.and .i64 b (qs.getD A (0, 0)).2) w
    generalize (forP (qs.getD A (0, 0)).1 (bits BinOp.and .i64 b (qs.getD A (0, 0)).2)).1 = x at *
    generalize (forP (qs.getD A (0, 0)).1 (bits BinOp.and .i64 b (qs.getD A (0, 0)).2)).2 = y at *
    generalize (qs.getD A (0, 0)).1 = p at *
    generalize (qs.getD A (0, 0)).2 = q at *
    have hAI : (A : Int) < 8 := by omega
    clear e h p1 p2 p3 p4 p5 hg ha h1
    go_enter Try.func63, Try.ntmps63
    go_wp2_with fail
    refine (hF _).mono ?_
    rintro e w1 ⟨rfl, b1⟩
    have k0 : w1.cell? ⟨w.heap.size + 1, 0, none⟩ = some (.int .i64 0) := cell_keep b1 (cell_push _ (cell_new2 rfl))
    have k1 : w1.cell? ⟨w.heap.size + 1, 1, none⟩ = some (.int .i64 0) := cell_keep b1 (cell_push _ (cell_new2 rfl))
    have f0 : w1.frozen? ⟨w.heap.size + 1, 0, none⟩ = false := by rw [(on (al (Below.refl _ _) _) b1).frozen (p := ⟨w.heap.size + 1, 0, none⟩) (by show w.heap.size + 1 < _; simp)]; simp
    have f1 : w1.frozen? ⟨w.heap.size + 1, 1, none⟩ = false := by rw [(on (al (Below.refl _ _) _) b1).frozen (p := ⟨w.heap.size + 1, 1, none⟩) (by show w.heap.size + 1 < _; simp)]; simp
    have B1 : Hid (Below w.heap.size w w1) := on (al (al (al (Below.refl _ _) _) _) _) b1
    clear b1
    go_wp2_with fail
    exact bodyPost_ret (v := .agg #[.int .i64 x, .int .i64 y]) (by simp [results, Try.results63, go_sem, k0, k1]) rfl ⟨rfl, (B1.out.setCell (by simp) _).setCell (by simp) _⟩

theorem map_take (f : Int × Int → Int × Int) (rs : List (Int × Int)) (j : Nat) (h : j < rs.length) : (rs.take (j + 1)).map f = (rs.take j).map f ++ [((f ((rs.getD j (0, 0)).1, (rs.getD j (0, 0)).2)).1, (f ((rs.getD j (0, 0)).1, (rs.getD j (0, 0)).2)).2)] := by
  rw [List.take_succ_eq_append_getElem h, List.map_append, List.getD, List.getElem?_eq_getElem h]
  rfl

set_option maxHeartbeats 2000000 in
theorem impl_compose (v u : Value) (rs qs : List (Int × Int)) (b b' : Nat) (w : World) (h : Prs 86 w b v rs) (k : Prs 86 w b' u qs) (hm : rs.length ≤ 1048576) (km : qs.length ≤ 1048576) :
    Calls Try.prog 17 #[v, u] w fun e w' => ∃ y, e = .returned (.agg #[.int .i64 (twoV rs 8 qs), y]) ∧ Prs 86 w' w.heap.size y (cmpL rs qs) ∧ Below w.heap.size w w' := by
  have hF := fun w1 (q : Below w.heap.size w w1) => impl_two v u rs qs 8 b b' w1 (h.keep q) (k.keep q) hm km
  by_cases hc : twoV rs 8 qs = 0
  case neg =>
    have e2 : cmpL rs qs = [] := if_neg hc
    rw [e2]
    have g : (twoV rs 8 qs != 0) = true := by simpa using hc
    clear e2 hc
    generalize twoV rs 8 qs = c at *
    obtain ⟨a, cap, rfl, _, _, _⟩ := h.shape
    obtain ⟨a', cap', rfl, _, _, _⟩ := k.shape
    clear h k
    go_enter Try.func17, Try.ntmps17
    go_wp2_with fail
    refine (hF _ (al (Below.refl _ _) _)).mono ?_
    rintro e w1 ⟨rfl, b1⟩
    have k0 := cell_keep b1 (cell_new (i := 0) rfl)
    have k1 := cell_keep b1 (cell_new (i := 1) rfl)
    have B1 : Hid (Below w.heap.size w w1) := on (al (Below.refl _ _) _) b1
    have z0 : w1.frozen? ⟨w.heap.size, 0, none⟩ = false := by rw [(bcell b1).2 _ _ (by simp)]; simp
    have z1 : w1.frozen? ⟨w.heap.size, 1, none⟩ = false := by rw [(bcell b1).2 _ _ (by simp)]; simp
    clear b1 hF
    go_wp2_with fail
    exact bodyPost_ret (v := .agg #[.int .i64 c, .slice none 0 0]) (by simp [results, Try.results17, go_sem, k0, k1]) rfl ⟨_, rfl, Prs.nil _ _ _, (B1.out.setCell (by simp) _).setCell (by simp) _⟩
  have e2 : cmpL rs qs = rs.map (cmpP qs) := if_pos hc
  rw [e2]
  rw [hc] at hF ⊢
  obtain ⟨z1, z2⟩ := twoV_zero hc
  obtain ⟨_, _, hl8, hok⟩ := pgsV_zero z1
  obtain ⟨_, _, kl8, _⟩ := pgsV_zero z2
  obtain ⟨a, cap, rfl, _, _, hg⟩ := h.shape
  obtain ⟨a', cap', rfl, _, _, _⟩ := k.shape
  rw [hl8] at hg hF ⊢
  rw [kl8] at hF ⊢
  obtain ⟨g, rfl⟩ := hg (by omega)
  have HZ : Hid (Prs 86 w b (.slice (some ⟨g, 0, none⟩) 8 cap) rs) := by show Prs 86 _ _ _ _; rw [← hl8]; exact h
  have KZ : Hid (Prs 86 w b' (.slice a' 8 cap') qs) := by show Prs 86 _ _ _ _; rw [← kl8]; exact k
  have HO : Hid ((rs.length = 8 ∧ okTo 8 rs 8) ∧ qs.length = 8) := ⟨⟨hl8, hok⟩, kl8⟩
  clear h k hc e2 z1 z2 hl8 hok kl8 hg hm km
  go_enter Try.func17, Try.ntmps17
  go_wp2_with fail
  refine (hF _ (al (Below.refl _ _) _)).mono ?_
  rintro e w1 ⟨rfl, b1⟩
  have B1 : Hid (Below w.heap.size w w1) := on (al (Below.refl _ _) _) b1
  have RR : Hid ((w1.cell? ⟨w.heap.size, 0, none⟩ = some (.int .i64 0) ∧ w1.cell? ⟨w.heap.size, 1, none⟩ = some (.slice none 0 0)) ∧ w1.frozen? ⟨w.heap.size, 0, none⟩ = false ∧ w1.frozen? ⟨w.heap.size, 1, none⟩ = false ∧ w.heap.size < w1.heap.size) :=
    ⟨⟨cell_keep b1 (cell_new (i := 0) rfl), cell_keep b1 (cell_new (i := 1) rfl)⟩, by rw [(bcell b1).2 _ _ (by simp)]; simp, by rw [(bcell b1).2 _ _ (by simp)]; simp, by have := b1.size; simp at this; omega⟩
  clear b1 hF
  go_wp2_with fail
  go_loopw [6, 8, 18] (fun y _ c wr => ∃ j : Nat, j ≤ 8 ∧ c = .int .i64 j ∧ Prs 86 wr w1.heap.size y ((rs.take j).map (cmpP qs)) ∧ Below w1.heap.size w1 wr) (fun _ _ c _ => 8 - (intOf c).toNat)
  case atStart => exact ⟨0, Nat.zero_le _, rfl, Prs.nil _ _ _, Below.refl _ _⟩
  case round =>
    obtain ⟨j, hj, rfl, hP, hB⟩ := hrel
    have PB : Hid (Prs 86 wr w1.heap.size _ ((rs.take j).map (cmpP qs))) := hP
    have HB : Hid (Below w1.heap.size w1 wr) := hB
    have SW : Hid (w1.heap.size ≤ wr.heap.size) := hB.size
    obtain ⟨ya, yc, rfl, _, _, _⟩ := hP.shape
    have HLN : Hid (((rs.take j).map (cmpP qs)).length ≤ 8 ∧ ((rs.take j).map (cmpP qs)).length ≤ 8) := ⟨by simp; omega, by simp; omega⟩
    generalize hun : ((rs.take j).map (cmpP qs)).length = un at *
    clear hP
    by_cases hlt : j < 8
    · have BW : Below w.heap.size w wr := on B1.out hB
      have c1 := cell_keep BW (HZ.out.cell HO.out.1.1.symm j hlt).1
      have c2 := cell_keep BW (HZ.out.cell HO.out.1.1.symm j hlt).2
      have gb : g < wr.heap.size := block_of_cell c1
      have hI : (j : Int) < 8 := by omega
      have HL : Hid (j < 8) := hlt
      have hC := fun w2 (q : Below w.heap.size w w2) => impl_composed (rs.getD j (0, 0)).1 (rs.getD j (0, 0)).2 (.slice a' 8 cap') qs b' w2 (KZ.out.keep q) HO.out.2 (HO.out.1.2 j hlt)
      have HBW : Hid (Below w.heap.size w wr) := BW
      have HM : Hid (_ = _) := map_take (cmpP qs) rs j (by have := HO.out.1.1; omega)
      generalize (cmpP qs ((rs.getD j (0, 0)).1, (rs.getD j (0, 0)).2)).1 = x at *
      generalize (cmpP qs ((rs.getD j (0, 0)).1, (rs.getD j (0, 0)).2)).2 = y at *
      generalize (rs.getD j (0, 0)).1 = p at *
      generalize (rs.getD j (0, 0)).2 = q at *
      clear hB hlt BW
      go_wp2_with fail
      refine (hC _ (al HBW.out _)).mono ?_
      rintro e w5 ⟨rfl, b5⟩
      have B5 : Hid (Below w1.heap.size w1 w5) := on (al HB.out _) b5
      have P5 : Hid (Prs 86 w5 w1.heap.size (.slice ya un yc) ((rs.take j).map (cmpP qs))) := PB.out.keep (on (al (Below.refl _ _) _) b5)
      have S5 : Hid (w1.heap.size ≤ w5.heap.size) := B5.out.size
      clear b5 hC c1 c2
      go_wp2_with (at_builtin; refine wp_pair 24 86 Try.underlying24 info_page _ rfl _ _ rfl w1.heap.size _ _ rfl (P5.out.keep (al (Below.refl _ _) _)) _ x y rfl (cell_new rfl) (cell_new rfl) (by rw [hun]; have := HLN.out; omega) (by have := S5.out; simp; omega) ?_; intro v' w' hP' hG')
      have PP : Hid (Prs 86 w' w1.heap.size v' _) := hP'
      have BP : Hid (Below w1.heap.size w1 w') := (al B5.out _).grown hG' (by have := S5.out; simp; omega) (fun k hk => (P5.out.lt k hk).1)
      clear hP' hG'
      go_wp2_with fail
      go_roundw
      case rel => exact ⟨j + 1, by have := HL.out; omega, by go_num, by rw [HM.out]; exact PP.out, BP.out⟩
      case measure => have := HL.out; simp [intOf]; omega
    · have hI : ¬ (j : Int) < 8 := by omega
      obtain rfl : j = 8 := by omega
      have hz8 : rs.take 8 = rs := List.take_of_length_le (Nat.le_of_eq HO.out.1.1)
      rw [hz8] at PB
      have hv : Hid (some w.heap.size ≠ (Value.slice ya un yc).ownBlock) := pown_not PB.out _ (.inl (by have := RR.out.2.2.2; omega))
      have r0 := cell_keep hB RR.out.1.1
      have r1 := cell_keep hB RR.out.1.2
      have f0 : wr.frozen? ⟨w.heap.size, 0, none⟩ = false := by rw [hB.frozen (p := ⟨w.heap.size, 0, none⟩) RR.out.2.2.2]; exact RR.out.2.1
      have f1 : wr.frozen? ⟨w.heap.size, 1, none⟩ = false := by rw [hB.frozen (p := ⟨w.heap.size, 1, none⟩) RR.out.2.2.2]; exact RR.out.2.2.1
      have PM : Hid (Prs 86 wr w.heap.size (.slice ya un yc) (rs.map (cmpP qs))) := PB.out.mono (by have := RR.out.2.2.2; omega)
      have BM : Hid (Below w.heap.size w wr) := on B1.out HB.out
      clear hB
      go_wp2_with fail
      exact bodyPost_ret (v := .agg #[.int .i64 0, .slice ya un yc]) (by simp [results, Try.results17, go_sem, r0, r1]) rfl ⟨_, rfl, (PM.out.put _ _ (fun e => hv.out e.symm)).put _ _ (fun e => hv.out e.symm), (BM.out.setCell (by simp) _).setCell (by simp) _⟩
end Go.Proofs.Ytighhjkokjpgfaa
