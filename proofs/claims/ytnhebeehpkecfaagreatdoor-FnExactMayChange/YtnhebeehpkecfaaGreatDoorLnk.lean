/- Links to a guest: the program and the model. -/
import Derived.Test.YtnhebeehpkecfaaGreatDoorFrl
import Derived.Test.YtnhebeehpkecfaaGreatDoorRise
namespace Go.Proofs.YtnhebeehpkecfaaGreatDoor
open Go.RowKit
set_option linter.unusedVariables false

theorem lk_clo (l : Ln) (gf : Nat) (f : Int) (gt : Nat) (t : Int) (w : World) (hgf : w.cell? ⟨gf, 0, none⟩ = some (.int .i64 f)) (hgt : w.cell? ⟨gt, 0, none⟩ = some (.int .i64 t)) :
    Calls Tryz.prog 85 #[.agg #[.int .i64 l.fr, .int .i64 l.dst, .int .i64 l.pg, .int .i64 l.af, .int .i64 l.tt], .pointer (some ⟨gf, 0, none⟩), .pointer (some ⟨gt, 0, none⟩)] w fun e w' => e = .returned (.bool (decide (l.fr = f) && decide (l.dst = t))) ∧ Below w.heap.size w w' := by
  obtain ⟨a, b, c, d, z⟩ := l
  have bgf : gf < w.heap.size := block_of_cell hgf
  have bgt : gt < w.heap.size := block_of_cell hgt
  simp only
  by_cases h1 : a = f <;> by_cases h2 : b = t <;>
    (go_enter Tryz.func85, Tryz.ntmps85
     go_wp2_with fail
     go_ret
     exact ⟨by simp [*], by first | exact al (Below.refl _ _) _ | (simp [*]; exact al (Below.refl _ _) _)⟩)

set_option maxHeartbeats 1000000 in
theorem lk_idx (a : Option Addr) (n c : Nat) (gf : Nat) (f : Int) (gt : Nat) (t : Int) (rs : List Ln) (w : World) (h : IsLanes w a n c rs) (hgf : w.cell? ⟨gf, 0, none⟩ = some (.int .i64 f)) (hgt : w.cell? ⟨gt, 0, none⟩ = some (.int .i64 t)) :
    Calls Tryz.prog 107 #[.slice a n c, .func (.func 85) #[] #[.pointer (some ⟨gf, 0, none⟩), .pointer (some ⟨gt, 0, none⟩)]] w fun e w' => (∃ v : Int, e = .returned (.int .i64 v) ∧ Hid (0 ≤ v ↔ rs.any (fun l => decide (l.fr = f) && decide (l.dst = t)) = true)) ∧ Below w.heap.size w w' := by
  have HL : Hid (n = rs.length) := h.len
  have HO : Hid (IsLanes w a n c rs) := h
  have Hgf : Hid (w.cell? ⟨gf, 0, none⟩ = some (.int .i64 f)) := hgf
  have Hgt : Hid (w.cell? ⟨gt, 0, none⟩ = some (.int .i64 t)) := hgt
  have hmax : (n : Int) ≤ 9223372036854775807 := by have := h.cap; unfold maxLen at this; omega
  clear h hgf hgt
  go_enter Tryz.func107, Tryz.ntmps107
  go_wp2_with fail
  go_loopw [8] (fun c wq => ∃ j : Nat, j ≤ n ∧ c = .int .i64 j ∧ Below w.heap.size w wq ∧ Hid (rs.any (fun l => decide (l.fr = f) && decide (l.dst = t)) = (rs.drop j).any (fun l => decide (l.fr = f) && decide (l.dst = t)))) (fun c _ => n - (intOf c).toNat)
  case atStart => exact ⟨0, Nat.zero_le _, rfl, Below.refl _ _, by show _ = _; simp⟩
  case round =>
    obtain ⟨j, hj, rfl, hB, hI⟩ := hrel
    have HB : Hid (Below _ w wr) := hB
    by_cases hlt : j < n
    · obtain ⟨x, rfl, k0, k1, k2, k3, k4⟩ := (HO.out.stay hB).at j hlt
      have hJ : (j : Int) < (n : Int) := by omega
      have HLT : Hid (j < n) := hlt
      have ST : Hid (_ = _) := any_step lz rs (fun l => decide (l.fr = f) && decide (l.dst = t)) j (by have := HL.out; omega)
      obtain ⟨O, hO⟩ : ∃ O, rs.getD j lz = O := ⟨_, rfl⟩
      rw [hO] at k0 k1 k2 k3 k4 ST
      clear hO hlt hB
      have CL := fun w1 (b1 : Below w.heap.size w w1) => lk_clo O _ _ _ _ w1 (cell_keep b1 Hgf.out) (cell_keep b1 Hgt.out)
      have hPO : Hid (∀ q : Bool, q = (decide (O.fr = f) && decide (O.dst = t)) → (rs.drop j).any (fun l => decide (l.fr = f) && decide (l.dst = t)) = (q || (rs.drop (j + 1)).any (fun l => decide (l.fr = f) && decide (l.dst = t)))) := fun q hq => by rw [ST.out, hq]
      generalize hp : (decide (O.fr = f) && decide (O.dst = t)) = pv at *
      cases pv
      · have S2 : Hid ((rs.drop j).any (fun l => decide (l.fr = f) && decide (l.dst = t)) = (rs.drop (j + 1)).any (fun l => decide (l.fr = f) && decide (l.dst = t))) := by show _ = _; rw [hPO.out false rfl]; rfl
        clear hp ST hPO
        go_wp2_with (go_at_call 85; refine (CL _ HB.out).mono ?_; rintro e w2 ⟨rfl, b2⟩; have B2 : Hid (Below _ w w2) := on HB.out b2; clear b2 CL)
        go_roundw
        case rel => exact ⟨j + 1, by have := HLT.out; omega, by go_num, B2.out, by show _ = _; rw [hI.out, S2.out]⟩
        case measure => have := HLT.out; simp [intOf]; omega
      · have S2 : Hid ((rs.drop j).any (fun l => decide (l.fr = f) && decide (l.dst = t)) = true) := by show _ = _; rw [hPO.out true rfl]; rfl
        clear hp ST hPO
        go_wp2_with (go_at_call 85; refine (CL _ HB.out).mono ?_; rintro e w2 ⟨rfl, b2⟩; have B2 : Hid (Below _ w w2) := on HB.out b2; clear b2 CL)
        go_ret
        exact ⟨⟨_, rfl, show _ ↔ _ from ⟨fun _ => by rw [hI.out, S2.out], fun _ => by omega⟩⟩, B2.out⟩
    · have hJ : ¬ (j : Int) < (n : Int) := by omega
      have HJ : Hid (j = n) := by show _ = _; omega
      clear hlt hB
      go_wp2_with fail
      go_ret
      have F := hI.out
      rw [List.drop_of_length_le (by have := HL.out; have := HJ.out; omega)] at F
      have G : (0 ≤ (-1 : Int) ↔ rs.any (fun l => decide (l.fr = f) && decide (l.dst = t)) = true) := by rw [F]; simp
      exact ⟨⟨_, rfl, by first | exact G | (simp only [List.any_eq_true, Bool.and_eq_true, decide_eq_true_eq] at G; exact G)⟩, HB.out⟩
theorem lk_has (a : Option Addr) (n c : Nat) (gf : Nat) (f : Int) (gt : Nat) (t : Int) (rs : List Ln) (w : World) (h : IsLanes w a n c rs) (hgf : w.cell? ⟨gf, 0, none⟩ = some (.int .i64 f)) (hgt : w.cell? ⟨gt, 0, none⟩ = some (.int .i64 t)) :
    Calls Tryz.prog 84 #[.slice a n c, .func (.func 85) #[] #[.pointer (some ⟨gf, 0, none⟩), .pointer (some ⟨gt, 0, none⟩)]] w fun e w' => e = .returned (.bool (rs.any (fun l => decide (l.fr = f) && decide (l.dst = t)))) ∧ Below w.heap.size w w' := by
  have HR : Hid (IsLanes w a n c rs) := h
  have Hgf : Hid (w.cell? ⟨gf, 0, none⟩ = some (.int .i64 f)) := hgf
  have Hgt : Hid (w.cell? ⟨gt, 0, none⟩ = some (.int .i64 t)) := hgt
  clear h hgf hgt
  go_enter Tryz.func84, Tryz.ntmps84
  go_wp2_with (go_at_call 107; refine (lk_idx _ _ _ _ _ _ _ _ _ HR.out Hgf.out Hgt.out).mono ?_; rintro e w1 ⟨⟨v, rfl, hv⟩, b1⟩)
  go_ret
  refine ⟨congrArg (fun b => Ending.returned (.bool b)) (by have h := hv.out; apply Bool.eq_iff_iff.2; simp only [decide_eq_true_eq]; exact h), b1⟩

set_option maxHeartbeats 2000000 in
theorem i_hasLink (a0 a1 a2 a3 : Option Addr) (n0 c0 n1 c1 n2 c2 n3 c3 : Nat) (P : Plc) (f t : Int) (w : World) (h : Pl w a0 n0 c0 a1 n1 c1 a2 n2 c2 a3 n3 c3 P) :
    Calls Tryz.prog 70 #[.agg #[.slice a0 n0 c0, .slice a1 n1 c1, .slice a2 n2 c2, .slice a3 n3 c3], .int .i64 f, .int .i64 t] w fun e w' => e = .returned (.bool (hasL P f t)) ∧ Below w.heap.size w w' := by
  generalize hW : ((w.alloc (.cells #[.slice a0 n0 c0, .slice a1 n1 c1, .slice a2 n2 c2, .slice a3 n3 c3] 37)).alloc (.cells #[.int .i64 f] 2)).alloc (.cells #[.int .i64 t] 2) = W
  have B0 : Hid (Below w.heap.size w W) := by show Below _ _ _; rw [← hW]; exact al (al (al (Below.refl _ _) _) _) _
  obtain ⟨s, hS⟩ : ∃ s, w.heap.size = s := ⟨_, rfl⟩
  have q1 : W.cell? ⟨s, 1, none⟩ = some (.slice a1 n1 c1) := by rw [← hW, ← hS]; exact cell_push _ (cell_push _ (cell_new rfl))
  have q2 : W.cell? ⟨s, 2, none⟩ = some (.slice a2 n2 c2) := by rw [← hW, ← hS]; exact cell_push _ (cell_push _ (cell_new rfl))
  have z1 : s + 1 = (w.alloc (.cells #[.slice a0 n0 c0, .slice a1 n1 c1, .slice a2 n2 c2, .slice a3 n3 c3] 37)).heap.size := by rw [← hS]; simp
  have z2 : s + 1 + 1 = ((w.alloc (.cells #[.slice a0 n0 c0, .slice a1 n1 c1, .slice a2 n2 c2, .slice a3 n3 c3] 37)).alloc (.cells #[.int .i64 f] 2)).heap.size := by rw [← hS]; simp
  have qf : W.cell? ⟨s + 1, 0, none⟩ = some (.int .i64 f) := by rw [← hW, z1]; exact cell_push _ (cell_new rfl)
  have qt : W.cell? ⟨s + 1 + 1, 0, none⟩ = some (.int .i64 t) := by rw [← hW, z2]; exact cell_new rfl
  clear z1 z2
  have Q1 : Hid (W.cell? ⟨s, 1, none⟩ = some (.slice a1 n1 c1)) := q1
  have QF : Hid (W.cell? ⟨s + 1, 0, none⟩ = some (.int .i64 f)) := qf
  have QT : Hid (W.cell? ⟨s + 1 + 1, 0, none⟩ = some (.int .i64 t)) := qt
  have HP : Hid (Pl W a0 n0 c0 a1 n1 c1 a2 n2 c2 a3 n3 c3 P) := h.stay B0.out
  clear h
  by_cases hb : (f, t) ∈ P.bells
  · have V : Hid (hasL P f t = true) := by show _ = _; rw [hasL, decide_eq_true hb]; rfl
    go_enter Tryz.func70, Tryz.ntmps70
    go_wp2_with fail
    clear hW hS
    refine (i_containsB _ _ _ _ _ _ _ HP.out.bells).mono ?_
    rintro e w1 ⟨rfl, b1⟩
    rw [decide_eq_true hb]
    go_wp2_with fail
    go_ret
    rw [V.out]
    exact ⟨rfl, on B0.out b1⟩
  · have V : Hid (hasL P f t = P.lanes.any fun l => decide (l.fr = f) && decide (l.dst = t)) := by show _ = _; rw [hasL, decide_eq_false hb]; rfl
    go_enter Tryz.func70, Tryz.ntmps70
    go_wp2_with fail
    clear hW hS
    refine (i_containsB _ _ _ _ _ _ _ HP.out.bells).mono ?_
    rintro e w1 ⟨rfl, b1⟩
    rw [decide_eq_false hb]
    have B1 : Hid (Below _ W w1) := b1
    have q1 := cell_keep b1 Q1.out
    clear q2 qf qt b1
    go_wp2_with fail
    refine (lk_has _ _ _ _ _ _ _ _ _ (HP.out.lanes.stay B1.out) (cell_keep B1.out QF.out) (cell_keep B1.out QT.out)).mono ?_
    rintro e w2 ⟨rfl, b2⟩
    go_wp2_with fail
    go_ret
    rw [V.out]
    exact ⟨rfl, on B0.out (on B1.out b2)⟩

set_option maxHeartbeats 2000000 in
theorem i_links0 (a0 a1 a2 a3 : Option Addr) (n0 c0 n1 c1 n2 c2 n3 c3 : Nat) (P : Plc) (g : Int) (w : World) (h : Pl w a0 n0 c0 a1 n1 c1 a2 n2 c2 a3 n3 c3 P) (hn : n0 ≤ 1000) :
    Calls Tryz.prog 61 #[.agg #[.slice a0 n0 c0, .slice a1 n1 c1, .slice a2 n2 c2, .slice a3 n3 c3], .int .i64 g] w fun e w' => ∃ v, e = .returned v ∧ Nums w' w.heap.size v (linkUp P g P.own.length) ∧ Below w.heap.size w w' := by
  have HL : Hid (n0 = P.own.length) := h.own.len
  generalize hW : (w.alloc (.cells #[.slice a0 n0 c0, .slice a1 n1 c1, .slice a2 n2 c2, .slice a3 n3 c3] 37)) = W
  have B0 : Hid (Below w.heap.size w W) := by show Below _ _ _; rw [← hW]; exact al (Below.refl _ _) _
  obtain ⟨s, hS⟩ : ∃ s, w.heap.size = s := ⟨_, rfl⟩
  have Q : Hid (W.cell? ⟨s, 0, none⟩ = some (.slice a0 n0 c0) ∧ W.cell? ⟨s, 1, none⟩ = some (.slice a1 n1 c1) ∧ W.cell? ⟨s, 2, none⟩ = some (.slice a2 n2 c2) ∧ W.cell? ⟨s, 3, none⟩ = some (.slice a3 n3 c3)) := by
    show _ ∧ _
    rw [← hW, ← hS]
    exact ⟨cell_new rfl, cell_new rfl, cell_new rfl, cell_new rfl⟩
  have HP : Hid (Pl W a0 n0 c0 a1 n1 c1 a2 n2 c2 a3 n3 c3 P) := h.stay B0.out
  have hni : (n0 : Int) ≤ 1000 := by omega
  clear h
  have q0 := Q.out.1
  go_enter Tryz.func61, Tryz.ntmps61
  go_wp2_with fail
  clear hW hS q0
  go_loopw [5, 6, 10] (fun v _ c wr => ∃ j : Nat, j ≤ n0 ∧ c = .int .i64 j ∧ Nums wr W.heap.size v (linkUp P g j) ∧ Below W.heap.size W wr) (fun _ _ c _ => n0 - (intOf c).toNat)
  case atStart => exact ⟨0, Nat.zero_le _, rfl, Nums.nil _ _, Below.refl _ _⟩
  case round =>
    obtain ⟨j, hj, rfl, hN, hB⟩ := hrel
    have HN : Hid (Nums wr _ _ _) := hN
    have HB : Hid (Below _ W wr) := hB
    obtain ⟨ya, yc, hz, _, _, _⟩ := hN.shape
    have HLN : Hid ((linkUp P g j).length ≤ 1000) := by have := linkUp_len P g j; show _ ≤ _; omega
    generalize (linkUp P g j).length = un at hz
    subst hz
    by_cases hlt : j < n0
    · have hJ : (j : Int) < (n0 : Int) := by omega
      have HLT : Hid (j < n0) := hlt
      have q0 := cell_keep hB Q.out.1
      have q1 := cell_keep hB Q.out.2.1
      have q2 := cell_keep hB Q.out.2.2.1
      have q3 := cell_keep hB Q.out.2.2.2
      have CL := i_hasLink _ _ _ _ _ _ _ _ _ _ _ _ P (j : Int) g wr (HP.out.stay hB)
      have SU : Hid (linkUp P g (j + 1) = linkUp P g j ++ (if hasL P j g = true then [(j : Int)] else [])) := rfl
      generalize hasL P j g = hv at *
      clear hN hB hlt
      cases hv
      · have S2 : Hid (linkUp P g (j + 1) = linkUp P g j) := by show _ = _; rw [SU.out]; simp
        clear SU
        go_wp2_with fail
        refine CL.mono ?_
        rintro e w2 ⟨rfl, b2⟩
        have B2 : Hid (Below _ W w2) := on HB.out b2
        have N2 : Hid (Nums w2 _ _ (linkUp P g j)) := HN.out.keep b2
        clear b2 CL q0 q1 q2 q3
        go_wp2_with fail
        go_roundw
        case rel => exact ⟨j + 1, by have := HLT.out; omega, by go_num, by rw [S2.out]; exact N2.out, B2.out⟩
        case measure => have := HLT.out; simp [intOf]; omega
      · have S2 : Hid (linkUp P g (j + 1) = linkUp P g j ++ [(j : Int)]) := by show _ = _; rw [SU.out]; simp
        clear SU
        go_wp2_with fail
        refine CL.mono ?_
        rintro e w2 ⟨rfl, b2⟩
        have B2 : Hid (Below _ W w2) := on HB.out b2
        have N2 : Hid (Nums w2 _ _ (linkUp P g j)) := HN.out.keep b2
        have SZ : Hid (W.heap.size ≤ w2.heap.size) := (on HB.out b2).size
        clear b2 CL q0 q1 q2 q3
        go_wp2_with (at_builtin; refine wp_appn _ rfl _ _ rfl W.heap.size _ _ rfl (N2.out.keep (al (Below.refl _ _) _)) w2.heap.size 1 1 [(j : Int)] rfl rfl (one_at (cell_new rfl)) (by have := HLN.out; simp; omega) (by have := SZ.out; simp; omega) ?_; intro v' w' hN' hG')
        have N' : Hid (Nums w' _ v' _) := hN'
        have B' : Hid (Below W.heap.size W w') := (al B2.out _).grown hG' (by have := B2.out.size; simp; omega) (fun k hk => (N2.out.lt k hk).1)
        clear hN' hG'
        go_wp2_with fail
        go_roundw
        case rel => exact ⟨j + 1, by have := HLT.out; omega, by go_num, by rw [S2.out]; exact N'.out, B'.out⟩
        case measure => have := HLT.out; simp [intOf]; omega
    · have hJ : ¬ (j : Int) < (n0 : Int) := by omega
      have HJ : Hid (j = n0) := by show _ = _; omega
      clear hN hB hlt
      go_wp2_with fail
      go_ret
      refine ⟨_, rfl, ?_, on B0.out HB.out⟩
      have := HN.out
      rw [HJ.out, HL.out] at this
      exact this.mono B0.out.size

theorem rise_any (v0 : Value) (zs : List Int) (v : Int) (b : Nat) (w : World) (h : Nums w b v0 zs) (hl : zs.length ≤ 900) (hb : b ≤ w.heap.size) :
    Calls Tryz.prog 22 #[v0, .int .i64 v] w fun e w' => ∃ u, e = .returned u ∧ Nums w' b u (riseV zs v) ∧ Below w.heap.size w w' := by
  obtain ⟨j, k1, k2, k3⟩ := riseV_at zs v
  have h' := h
  obtain ⟨h1, ⟨hv, h3⟩ | ⟨g, cap, cur, hv, hg, hr, rest⟩⟩ := h'
  · subst hv
    have e0 : zs = [] := List.eq_nil_of_length_eq_zero h3
    subst e0
    refine (rise_nil v w).mono ?_
    rintro e w1 ⟨u, rfl, n1, b1⟩
    exact ⟨u, rfl, n1.mono hb, b1⟩
  · subst hv
    rcases k3 with ⟨k3, k4, k5⟩ | ⟨k3, k4⟩
    · refine (rise_same g zs.length cap zs v b j w h (by omega) k3 k2 k4).mono ?_
      rintro e w1 ⟨rfl, rfl⟩
      rw [k5]
      exact ⟨_, rfl, h, Below.refl _ _⟩
    · refine (rise_row g zs.length cap zs v b j w h (by omega) k1 k2 k3).mono ?_
      rintro e w1 ⟨u, rfl, n1, b1⟩
      rw [k4]
      exact ⟨u, rfl, n1.mono hb, b1⟩

set_option maxRecDepth 20000 in
set_option maxHeartbeats 4000000 in
theorem l6_links (q : Nat) (g : Int) (P : Plc) (w : World) (h : PolAt w q P) (hl : P.lanes.length ≤ 100) (hb : P.bells.length ≤ 100) :
    Calls Tryz.prog 60 #[.pointer (some ⟨q, 0, none⟩), .int .i64 g] w fun e w' => ∃ v, e = .returned v ∧ Nums w' w.heap.size v (lkV P g) ∧ Below w.heap.size w w' := by
  obtain ⟨a0, n0, c0, a1, n1, c1, a2, n2, c2, a3, n3, c3, h0, h1, h2, h3, h4⟩ := h
  have HL1 : Hid (n1 = P.lanes.length) := h4.lanes.len
  have HL2 : Hid (n2 = P.bells.length) := h4.bells.len
  have HO1 : Hid (IsLanes w a1 n1 c1 P.lanes) := h4.lanes
  have HO2 : Hid (IsPairs w a2 n2 c2 P.bells) := h4.bells
  have H1 : Hid (w.cell? ⟨q, 1, none⟩ = some (.slice a1 n1 c1)) := h1
  have H2 : Hid (w.cell? ⟨q, 2, none⟩ = some (.slice a2 n2 c2)) := h2
  have N1 : Hid (n1 ≤ 100) := by have := h4.lanes.len; show _ ≤ _; omega
  have N2 : Hid (n2 ≤ 100) := by have := h4.bells.len; show _ ≤ _; omega
  have hi1 : (n1 : Int) ≤ 100 := by have := N1.out; omega
  have hi2 : (n2 : Int) ≤ 100 := by have := N2.out; omega
  have LLB : Hid (∀ z, (lkL g z P.lanes).length ≤ z.length + P.lanes.length) := lkL_len g P.lanes
  clear h0 h1 h2 h3 h4 hl hb
  go_enter Tryz.func60, Tryz.ntmps60
  go_wp2_with fail
  go_loopw [5, 6] (fun v c wr => ∃ (j : Nat) (z : List Int), j ≤ n1 ∧ c = .int .i64 j ∧ Nums wr w.heap.size v z ∧ Below w.heap.size w wr ∧ Hid (lkL g [] P.lanes = lkL g z (P.lanes.drop j)) ∧ Hid (z.length ≤ j)) (fun _ c _ => n1 - (intOf c).toNat)
  case atStart => exact ⟨0, [], Nat.zero_le _, rfl, nums_empty _ _ (Nat.le_refl _), al (Below.refl _ _) _, by show _ = _; simp, Nat.le_refl _⟩
  case round =>
    obtain ⟨j, z, hj, rfl, hN, hB, hI, hZ⟩ := hrel
    have HN : Hid (Nums wr _ _ _) := hN
    have HB : Hid (Below _ w wr) := hB
    obtain ⟨ya, yc, hz, _, _, _⟩ := hN.shape
    generalize z.length = un at hz
    subst hz
    have h1 := cell_keep hB H1.out
    by_cases hlt : j < n1
    · obtain ⟨x, rfl, k0, k1, k2, k3, k4⟩ := (HO1.out.stay hB).at j hlt
      have hJ : (j : Int) < (n1 : Int) := by omega
      have HLT : Hid (j < n1) := hlt
      have ST : Hid (_ = _) := lkL_step g P.lanes z j (by have := HL1.out; omega)
      obtain ⟨O, hO⟩ : ∃ O, P.lanes.getD j lz = O := ⟨_, rfl⟩
      rw [hO] at k0 k1 k2 k3 k4 ST
      have RI := rise_any (.slice ya un yc) z O.fr w.heap.size wr hN (by have := hZ.out; have := N1.out; omega) hB.size
      clear hO hlt hB hN
      by_cases hd : O.dst = g
      · have S2 : Hid (lkL g z (P.lanes.drop j) = lkL g (riseV z O.fr) (P.lanes.drop (j + 1))) := by show _ = _; rw [ST.out, if_pos hd]
        clear ST
        go_wp2_with fail
        refine RI.mono ?_
        rintro e w2 ⟨u, rfl, n2', b2⟩
        have NN : Hid (Nums w2 _ _ _) := n2'
        have B2 : Hid (Below _ w w2) := on HB.out b2
        clear n2' b2 RI
        go_wp2_with fail
        go_roundw
        case rel => exact ⟨j + 1, _, by have := HLT.out; omega, by go_num, NN.out, B2.out, by show _ = _; rw [hI.out, S2.out], by have := riseV_len z O.fr; have := hZ.out; show _ ≤ _; omega⟩
        case measure => have := HLT.out; simp [intOf]; omega
      · have S2 : Hid (lkL g z (P.lanes.drop j) = lkL g z (P.lanes.drop (j + 1))) := by show _ = _; rw [ST.out, if_neg hd]
        clear ST RI
        go_wp2_with fail
        go_roundw
        case rel => exact ⟨j + 1, z, by have := HLT.out; omega, by go_num, HN.out, HB.out, by show _ = _; rw [hI.out, S2.out], by have := hZ.out; show _ ≤ _; omega⟩
        case measure => have := HLT.out; simp [intOf]; omega
    · have hJ : ¬ (j : Int) < (n1 : Int) := by omega
      have HJ : Hid (j = n1) := by show _ = _; omega
      have EZ : Hid (lkL g [] P.lanes = z) := by show _ = _; rw [hI.out, List.drop_of_length_le (by have := HL1.out; have := HJ.out; omega)]; rfl
      have ZL : Hid (z.length ≤ 100) := by have := hZ.out; have := N1.out; show _ ≤ _; omega
      clear hlt hB hN hI hZ
      go_wp2_with fail
      clear h1
      go_loopw [5, 7] (fun v c wq => ∃ (k : Nat) (y : List Int), k ≤ n2 ∧ c = .int .i64 k ∧ Nums wq w.heap.size v y ∧ Below w.heap.size w wq ∧ Hid (lkB g z P.bells = lkB g y (P.bells.drop k)) ∧ Hid (y.length ≤ 100 + k)) (fun _ c _ => n2 - (intOf c).toNat)
      case atStart => exact ⟨0, z, Nat.zero_le _, rfl, HN.out, HB.out, by show _ = _; simp, by have := ZL.out; show _ ≤ _; omega⟩
      case round =>
        clear HN HB
        obtain ⟨k, y, hk, rfl, hN, hB, hI, hZ⟩ := hrel
        have HN : Hid (Nums wr _ _ _) := hN
        have HB : Hid (Below _ w wr) := hB
        obtain ⟨ya, yc, hz, _, _, _⟩ := hN.shape
        generalize y.length = un at hz
        subst hz
        have h2 := cell_keep hB H2.out
        by_cases hlt : k < n2
        · obtain ⟨x, rfl, k0, k1⟩ := (HO2.out.stay hB).at k hlt
          have hJ2 : (k : Int) < (n2 : Int) := by omega
          have HLT : Hid (k < n2) := hlt
          have ST : Hid (_ = _) := lkB_step g P.bells y k (by have := HL2.out; omega)
          obtain ⟨⟨o1, o2⟩, hO⟩ : ∃ O, P.bells.getD k (0, 0) = O := ⟨_, rfl⟩
          rw [hO] at k0 k1 ST
          simp only at k0 k1 ST
          have RI := rise_any (.slice ya un yc) y o1 w.heap.size wr hN (by have := hZ.out; have := N2.out; omega) hB.size
          clear hO hlt hB hN
          by_cases hd : o2 = g
          · have S2 : Hid (lkB g y (P.bells.drop k) = lkB g (riseV y o1) (P.bells.drop (k + 1))) := by show _ = _; rw [ST.out, if_pos hd]
            clear ST
            go_wp2_with fail
            refine RI.mono ?_
            rintro e w2 ⟨u, rfl, n2', b2⟩
            have NN : Hid (Nums w2 _ _ _) := n2'
            have B2 : Hid (Below _ w w2) := on HB.out b2
            clear n2' b2 RI
            go_wp2_with fail
            go_roundw
            case rel => exact ⟨k + 1, _, by have := HLT.out; omega, by go_num, NN.out, B2.out, by show _ = _; rw [hI.out, S2.out], by have := riseV_len y o1; have := hZ.out; show _ ≤ _; omega⟩
            case measure => have := HLT.out; simp [intOf]; omega
          · have S2 : Hid (lkB g y (P.bells.drop k) = lkB g y (P.bells.drop (k + 1))) := by show _ = _; rw [ST.out, if_neg hd]
            clear ST RI
            go_wp2_with fail
            go_roundw
            case rel => exact ⟨k + 1, y, by have := HLT.out; omega, by go_num, HN.out, HB.out, by show _ = _; rw [hI.out, S2.out], by have := hZ.out; show _ ≤ _; omega⟩
            case measure => have := HLT.out; simp [intOf]; omega
        · have hJ2 : ¬ (k : Int) < (n2 : Int) := by omega
          have HK : Hid (k = n2) := by show _ = _; omega
          have EY : Hid (lkV P g = y) := by show _ = _; rw [lkV, EZ.out, hI.out, List.drop_of_length_le (by have := HL2.out; have := HK.out; omega)]; rfl
          clear hlt hB hN hI hZ
          go_wp2_with fail
          go_ret
          rw [EY.out]
          exact ⟨_, rfl, HN.out, HB.out⟩
end Go.Proofs.YtnhebeehpkecfaaGreatDoor
