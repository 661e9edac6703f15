/- Texts of this seat, joined. -/
import Derived.Test.YtddeaibkdpomlaaGreatDoorFrl
import Derived.Test.YtddeaibkdpomlaaGreatDoorRise
import Derived.Test.YtddeaibkdpomlaaGreatDoorPfv
import Derived.Test.YtddeaibkdpomlaaGreatDoorBwq
import Derived.Deep.RegionWith
import Derived.Deep.QuietTactic
import Derived.BigQuiet
import Derived.Maps.AppendAt
import Derived.Deep.Cut
import Derived.Deep.CutRange
import Derived.Test.YtddeaibkdpomlaaGreatDoorPog
import Derived.Test.YtddeaibkdpomlaaGreatDoorPol
namespace Go.Proofs.YtddeaibkdpomlaaGreatDoor
open Go.RowKit
set_option linter.unusedVariables false

theorem lk_clo (l : Ln) (gf : Nat) (f : Int) (gt : Nat) (t : Int) (w : World) (hgf : w.cell? ⟨gf, 0, none⟩ = some (.int .i64 f)) (hgt : w.cell? ⟨gt, 0, none⟩ = some (.int .i64 t)) :
    Calls Tryz.prog 42 #[.agg #[.int .i64 l.fr, .int .i64 l.dst, .int .i64 l.pg, .int .i64 l.af, .int .i64 l.tt], .pointer (some ⟨gf, 0, none⟩), .pointer (some ⟨gt, 0, none⟩)] w fun e w' => e = .returned (.bool (decide (l.fr = f) && decide (l.dst = t))) ∧ Below w.heap.size w w' := by
  obtain ⟨a, b, c, d, z⟩ := l
  have bgf : gf < w.heap.size := block_of_cell hgf
  have bgt : gt < w.heap.size := block_of_cell hgt
  simp only
  by_cases h1 : a = f <;> by_cases h2 : b = t <;>
    (go_enter Tryz.func42, Tryz.ntmps42
     go_wp2_with fail
     go_ret
     exact ⟨by simp [*], by first | exact al (Below.refl _ _) _ | (simp [*]; exact al (Below.refl _ _) _)⟩)

set_option maxHeartbeats 1000000 in
theorem lk_idx (a : Option Addr) (n c : Nat) (gf : Nat) (f : Int) (gt : Nat) (t : Int) (rs : List Ln) (w : World) (h : IsLanes w a n c rs) (hgf : w.cell? ⟨gf, 0, none⟩ = some (.int .i64 f)) (hgt : w.cell? ⟨gt, 0, none⟩ = some (.int .i64 t)) :
    Calls Tryz.prog 66 #[.slice a n c, .func (.func 42) #[] #[.pointer (some ⟨gf, 0, none⟩), .pointer (some ⟨gt, 0, none⟩)]] w fun e w' => (∃ v : Int, e = .returned (.int .i64 v) ∧ Hid (0 ≤ v ↔ rs.any (fun l => decide (l.fr = f) && decide (l.dst = t)) = true)) ∧ Below w.heap.size w w' := by
  have HL : Hid (n = rs.length) := h.len
  have HO : Hid (IsLanes w a n c rs) := h
  have Hgf : Hid (w.cell? ⟨gf, 0, none⟩ = some (.int .i64 f)) := hgf
  have Hgt : Hid (w.cell? ⟨gt, 0, none⟩ = some (.int .i64 t)) := hgt
  have hmax : (n : Int) ≤ 9223372036854775807 := by have := h.cap; unfold maxLen at this; omega
  clear h hgf hgt
  go_enter Tryz.func66, Tryz.ntmps66
  go_wp2_with fail
  go_loopw [8] (fun c wq => ∃ j : Nat, j ≤ n ∧ c = .int .i64 j ∧ Below w.heap.size w wq ∧ Hid (rs.any (fun l => decide (l.fr = f) && decide (l.dst = t)) = (rs.drop j).any (fun l => decide (l.fr = f) && decide (l.dst = t)))) (fun c _ => n - (intOf c).toNat)
  case atStart => exact ⟨0, Nat.zero_le _, rfl, Below.refl _ _, by show _ = _; simp⟩
  case round =>
    obtain ⟨j, hj, rfl, hB, hI⟩ := hrel
    have HB : Hid (Below _ w wr) := hB
    by_cases hlt : j < n
    · obtain ⟨x, rfl, k0, k1, k2, k3, k4⟩ := (HO.out.stay hB).at j hlt
      have hJ : (j : Int) < (n : Int) := by omega
      have HLT : Hid (j < n) := hlt
      have ST : Hid (_ = _) := any_step lz rs (fun l => decide (l.fr = f) && decide (l.dst = t)) j (by have := HL.out; omega)
      obtain ⟨O, hO⟩ : ∃ O, rs.getD j lz = O := ⟨_, rfl⟩
      rw [hO] at k0 k1 k2 k3 k4 ST
      clear hO hlt hB
      have CL := fun w1 (b1 : Below w.heap.size w w1) => lk_clo O _ _ _ _ w1 (cell_keep b1 Hgf.out) (cell_keep b1 Hgt.out)
      have hPO : Hid (∀ q : Bool, q = (decide (O.fr = f) && decide (O.dst = t)) → (rs.drop j).any (fun l => decide (l.fr = f) && decide (l.dst = t)) = (q || (rs.drop (j + 1)).any (fun l => decide (l.fr = f) && decide (l.dst = t)))) := fun q hq => by rw [ST.out, hq]
      generalize hp : (decide (O.fr = f) && decide (O.dst = t)) = pv at *
      cases pv
      · have S2 : Hid ((rs.drop j).any (fun l => decide (l.fr = f) && decide (l.dst = t)) = (rs.drop (j + 1)).any (fun l => decide (l.fr = f) && decide (l.dst = t))) := by show _ = _; rw [hPO.out false rfl]; rfl
        clear hp ST hPO
        go_wp2_with (go_at_call 42; refine (CL _ HB.out).mono ?_; rintro e w2 ⟨rfl, b2⟩; have B2 : Hid (Below _ w w2) := on HB.out b2; clear b2 CL)
        go_roundw
        case rel => exact ⟨j + 1, by have := HLT.out; omega, by go_num, B2.out, by show _ = _; rw [hI.out, S2.out]⟩
        case measure => have := HLT.out; simp [intOf]; omega
      · have S2 : Hid ((rs.drop j).any (fun l => decide (l.fr = f) && decide (l.dst = t)) = true) := by show _ = _; rw [hPO.out true rfl]; rfl
        clear hp ST hPO
        go_wp2_with (go_at_call 42; refine (CL _ HB.out).mono ?_; rintro e w2 ⟨rfl, b2⟩; have B2 : Hid (Below _ w w2) := on HB.out b2; clear b2 CL)
        go_ret
        exact ⟨⟨_, rfl, show _ ↔ _ from ⟨fun _ => by rw [hI.out, S2.out], fun _ => by omega⟩⟩, B2.out⟩
    · have hJ : ¬ (j : Int) < (n : Int) := by omega
      have HJ : Hid (j = n) := by show _ = _; omega
      clear hlt hB
      go_wp2_with fail
      go_ret
      have F := hI.out
      rw [List.drop_of_length_le (by have := HL.out; have := HJ.out; omega)] at F
      have G : (0 ≤ (-1 : Int) ↔ rs.any (fun l => decide (l.fr = f) && decide (l.dst = t)) = true) := by rw [F]; simp
      exact ⟨⟨_, rfl, by first | exact G | (simp only [List.any_eq_true, Bool.and_eq_true, decide_eq_true_eq] at G; exact G)⟩, HB.out⟩
theorem lk_has (a : Option Addr) (n c : Nat) (gf : Nat) (f : Int) (gt : Nat) (t : Int) (rs : List Ln) (w : World) (h : IsLanes w a n c rs) (hgf : w.cell? ⟨gf, 0, none⟩ = some (.int .i64 f)) (hgt : w.cell? ⟨gt, 0, none⟩ = some (.int .i64 t)) :
    Calls Tryz.prog 41 #[.slice a n c, .func (.func 42) #[] #[.pointer (some ⟨gf, 0, none⟩), .pointer (some ⟨gt, 0, none⟩)]] w fun e w' => e = .returned (.bool (rs.any (fun l => decide (l.fr = f) && decide (l.dst = t)))) ∧ Below w.heap.size w w' := by
  have HR : Hid (IsLanes w a n c rs) := h
  have Hgf : Hid (w.cell? ⟨gf, 0, none⟩ = some (.int .i64 f)) := hgf
  have Hgt : Hid (w.cell? ⟨gt, 0, none⟩ = some (.int .i64 t)) := hgt
  clear h hgf hgt
  go_enter Tryz.func41, Tryz.ntmps41
  go_wp2_with (go_at_call 66; refine (lk_idx _ _ _ _ _ _ _ _ _ HR.out Hgf.out Hgt.out).mono ?_; rintro e w1 ⟨⟨v, rfl, hv⟩, b1⟩)
  go_ret
  refine ⟨congrArg (fun b => Ending.returned (.bool b)) (by have h := hv.out; apply Bool.eq_iff_iff.2; simp only [decide_eq_true_eq]; exact h), b1⟩

set_option maxHeartbeats 2000000 in
theorem i_hasLink (a0 a1 a2 a3 : Option Addr) (n0 c0 n1 c1 n2 c2 n3 c3 : Nat) (P : Plc) (f t : Int) (w : World) (h : Pl w a0 n0 c0 a1 n1 c1 a2 n2 c2 a3 n3 c3 P) :
    Calls Tryz.prog 26 #[.agg #[.slice a0 n0 c0, .slice a1 n1 c1, .slice a2 n2 c2, .slice a3 n3 c3], .int .i64 f, .int .i64 t] w fun e w' => e = .returned (.bool (hasL P f t)) ∧ Below w.heap.size w w' := by
  generalize hW : ((w.alloc (.cells #[.slice a0 n0 c0, .slice a1 n1 c1, .slice a2 n2 c2, .slice a3 n3 c3] 29)).alloc (.cells #[.int .i64 f] 2)).alloc (.cells #[.int .i64 t] 2) = W
  have B0 : Hid (Below w.heap.size w W) := by show Below _ _ _; rw [← hW]; exact al (al (al (Below.refl _ _) _) _) _
  obtain ⟨s, hS⟩ : ∃ s, w.heap.size = s := ⟨_, rfl⟩
  have q1 : W.cell? ⟨s, 1, none⟩ = some (.slice a1 n1 c1) := by rw [← hW, ← hS]; exact cell_push _ (cell_push _ (cell_new rfl))
  have q2 : W.cell? ⟨s, 2, none⟩ = some (.slice a2 n2 c2) := by rw [← hW, ← hS]; exact cell_push _ (cell_push _ (cell_new rfl))
  have z1 : s + 1 = (w.alloc (.cells #[.slice a0 n0 c0, .slice a1 n1 c1, .slice a2 n2 c2, .slice a3 n3 c3] 29)).heap.size := by rw [← hS]; simp
  have z2 : s + 1 + 1 = ((w.alloc (.cells #[.slice a0 n0 c0, .slice a1 n1 c1, .slice a2 n2 c2, .slice a3 n3 c3] 29)).alloc (.cells #[.int .i64 f] 2)).heap.size := by rw [← hS]; simp
  have qf : W.cell? ⟨s + 1, 0, none⟩ = some (.int .i64 f) := by rw [← hW, z1]; exact cell_push _ (cell_new rfl)
  have qt : W.cell? ⟨s + 1 + 1, 0, none⟩ = some (.int .i64 t) := by rw [← hW, z2]; exact cell_new rfl
  clear z1 z2
  have Q1 : Hid (W.cell? ⟨s, 1, none⟩ = some (.slice a1 n1 c1)) := q1
  have QF : Hid (W.cell? ⟨s + 1, 0, none⟩ = some (.int .i64 f)) := qf
  have QT : Hid (W.cell? ⟨s + 1 + 1, 0, none⟩ = some (.int .i64 t)) := qt
  have HP : Hid (Pl W a0 n0 c0 a1 n1 c1 a2 n2 c2 a3 n3 c3 P) := h.stay B0.out
  clear h
  by_cases hb : (f, t) ∈ P.bells
  · have V : Hid (hasL P f t = true) := by show _ = _; rw [hasL, decide_eq_true hb]; rfl
    go_enter Tryz.func26, Tryz.ntmps26
    go_wp2_with fail
    clear hW hS
    refine (i_containsB _ _ _ _ _ _ _ HP.out.bells).mono ?_
    rintro e w1 ⟨rfl, b1⟩
    rw [decide_eq_true hb]
    go_wp2_with fail
    go_ret
    rw [V.out]
    exact ⟨rfl, on B0.out b1⟩
  · have V : Hid (hasL P f t = P.lanes.any fun l => decide (l.fr = f) && decide (l.dst = t)) := by show _ = _; rw [hasL, decide_eq_false hb]; rfl
    go_enter Tryz.func26, Tryz.ntmps26
    go_wp2_with fail
    clear hW hS
    refine (i_containsB _ _ _ _ _ _ _ HP.out.bells).mono ?_
    rintro e w1 ⟨rfl, b1⟩
    rw [decide_eq_false hb]
    have B1 : Hid (Below _ W w1) := b1
    have q1 := cell_keep b1 Q1.out
    clear q2 qf qt b1
    go_wp2_with fail
    refine (lk_has _ _ _ _ _ _ _ _ _ (HP.out.lanes.stay B1.out) (cell_keep B1.out QF.out) (cell_keep B1.out QT.out)).mono ?_
    rintro e w2 ⟨rfl, b2⟩
    go_wp2_with fail
    go_ret
    rw [V.out]
    exact ⟨rfl, on B0.out (on B1.out b2)⟩

set_option maxHeartbeats 2000000 in
theorem i_links0 (a0 a1 a2 a3 : Option Addr) (n0 c0 n1 c1 n2 c2 n3 c3 : Nat) (P : Plc) (g : Int) (w : World) (h : Pl w a0 n0 c0 a1 n1 c1 a2 n2 c2 a3 n3 c3 P) (hn : n0 ≤ 1000) :
    Calls Tryz.prog 15 #[.agg #[.slice a0 n0 c0, .slice a1 n1 c1, .slice a2 n2 c2, .slice a3 n3 c3], .int .i64 g] w fun e w' => ∃ v, e = .returned v ∧ Nums w' w.heap.size v (linkUp P g P.own.length) ∧ Below w.heap.size w w' := by
  have HL : Hid (n0 = P.own.length) := h.own.len
  generalize hW : (w.alloc (.cells #[.slice a0 n0 c0, .slice a1 n1 c1, .slice a2 n2 c2, .slice a3 n3 c3] 29)) = W
  have B0 : Hid (Below w.heap.size w W) := by show Below _ _ _; rw [← hW]; exact al (Below.refl _ _) _
  obtain ⟨s, hS⟩ : ∃ s, w.heap.size = s := ⟨_, rfl⟩
  have Q : Hid (W.cell? ⟨s, 0, none⟩ = some (.slice a0 n0 c0) ∧ W.cell? ⟨s, 1, none⟩ = some (.slice a1 n1 c1) ∧ W.cell? ⟨s, 2, none⟩ = some (.slice a2 n2 c2) ∧ W.cell? ⟨s, 3, none⟩ = some (.slice a3 n3 c3)) := by
    show _ ∧ _
    rw [← hW, ← hS]
    exact ⟨cell_new rfl, cell_new rfl, cell_new rfl, cell_new rfl⟩
  have HP : Hid (Pl W a0 n0 c0 a1 n1 c1 a2 n2 c2 a3 n3 c3 P) := h.stay B0.out
  have hni : (n0 : Int) ≤ 1000 := by omega
  clear h
  have q0 := Q.out.1
  go_enter Tryz.func15, Tryz.ntmps15
  go_wp2_with fail
  clear hW hS q0
  go_loopw [5, 6, 10] (fun v _ c wr => ∃ j : Nat, j ≤ n0 ∧ c = .int .i64 j ∧ Nums wr W.heap.size v (linkUp P g j) ∧ Below W.heap.size W wr) (fun _ _ c _ => n0 - (intOf c).toNat)
  case atStart => exact ⟨0, Nat.zero_le _, rfl, Nums.nil _ _, Below.refl _ _⟩
  case round =>
    obtain ⟨j, hj, rfl, hN, hB⟩ := hrel
    have HN : Hid (Nums wr _ _ _) := hN
    have HB : Hid (Below _ W wr) := hB
    obtain ⟨ya, yc, hz, _, _, _⟩ := hN.shape
    have HLN : Hid ((linkUp P g j).length ≤ 1000) := by have := linkUp_len P g j; show _ ≤ _; omega
    generalize (linkUp P g j).length = un at hz
    subst hz
    by_cases hlt : j < n0
    · have hJ : (j : Int) < (n0 : Int) := by omega
      have HLT : Hid (j < n0) := hlt
      have q0 := cell_keep hB Q.out.1
      have q1 := cell_keep hB Q.out.2.1
      have q2 := cell_keep hB Q.out.2.2.1
      have q3 := cell_keep hB Q.out.2.2.2
      have CL := i_hasLink _ _ _ _ _ _ _ _ _ _ _ _ P (j : Int) g wr (HP.out.stay hB)
      have SU : Hid (linkUp P g (j + 1) = linkUp P g j ++ (if hasL P j g = true then [(j : Int)] else [])) := rfl
      generalize hasL P j g = hv at *
      clear hN hB hlt
      cases hv
      · have S2 : Hid (linkUp P g (j + 1) = linkUp P g j) := by show _ = _; rw [SU.out]; simp
        clear SU
        go_wp2_with fail
        refine CL.mono ?_
        rintro e w2 ⟨rfl, b2⟩
        have B2 : Hid (Below _ W w2) := on HB.out b2
        have N2 : Hid (Nums w2 _ _ (linkUp P g j)) := HN.out.keep b2
        clear b2 CL q0 q1 q2 q3
        go_wp2_with fail
        go_roundw
        case rel => exact ⟨j + 1, by have := HLT.out; omega, by go_num, by rw [S2.out]; exact N2.out, B2.out⟩
        case measure => have := HLT.out; simp [intOf]; omega
      · have S2 : Hid (linkUp P g (j + 1) = linkUp P g j ++ [(j : Int)]) := by show _ = _; rw [SU.out]; simp
        clear SU
        go_wp2_with fail
        refine CL.mono ?_
        rintro e w2 ⟨rfl, b2⟩
        have B2 : Hid (Below _ W w2) := on HB.out b2
        have N2 : Hid (Nums w2 _ _ (linkUp P g j)) := HN.out.keep b2
        have SZ : Hid (W.heap.size ≤ w2.heap.size) := (on HB.out b2).size
        clear b2 CL q0 q1 q2 q3
        go_wp2_with (at_builtin; refine wp_appn _ rfl _ _ rfl W.heap.size _ _ rfl (N2.out.keep (al (Below.refl _ _) _)) w2.heap.size 1 1 [(j : Int)] rfl rfl (one_at (cell_new rfl)) (by have := HLN.out; simp; omega) (by have := SZ.out; simp; omega) ?_; intro v' w' hN' hG')
        have N' : Hid (Nums w' _ v' _) := hN'
        have B' : Hid (Below W.heap.size W w') := (al B2.out _).grown hG' (by have := B2.out.size; simp; omega) (fun k hk => (N2.out.lt k hk).1)
        clear hN' hG'
        go_wp2_with fail
        go_roundw
        case rel => exact ⟨j + 1, by have := HLT.out; omega, by go_num, by rw [S2.out]; exact N'.out, B'.out⟩
        case measure => have := HLT.out; simp [intOf]; omega
    · have hJ : ¬ (j : Int) < (n0 : Int) := by omega
      have HJ : Hid (j = n0) := by show _ = _; omega
      clear hN hB hlt
      go_wp2_with fail
      go_ret
      refine ⟨_, rfl, ?_, on B0.out HB.out⟩
      have := HN.out
      rw [HJ.out, HL.out] at this
      exact this.mono B0.out.size

theorem rise_any (v0 : Value) (zs : List Int) (v : Int) (b : Nat) (w : World) (h : Nums w b v0 zs) (hl : zs.length ≤ 900) (hb : b ≤ w.heap.size) :
    Calls Tryz.prog 33 #[v0, .int .i64 v] w fun e w' => ∃ u, e = .returned u ∧ Nums w' b u (riseV zs v) ∧ Below w.heap.size w w' := by
  obtain ⟨j, k1, k2, k3⟩ := riseV_at zs v
  have h' := h
  obtain ⟨h1, ⟨hv, h3⟩ | ⟨g, cap, cur, hv, hg, hr, rest⟩⟩ := h'
  · subst hv
    have e0 : zs = [] := List.eq_nil_of_length_eq_zero h3
    subst e0
    refine (rise_nil v w).mono ?_
    rintro e w1 ⟨u, rfl, n1, b1⟩
    exact ⟨u, rfl, n1.mono hb, b1⟩
  · subst hv
    rcases k3 with ⟨k3, k4, k5⟩ | ⟨k3, k4⟩
    · refine (rise_same g zs.length cap zs v b j w h (by omega) k3 k2 k4).mono ?_
      rintro e w1 ⟨rfl, rfl⟩
      rw [k5]
      exact ⟨_, rfl, h, Below.refl _ _⟩
    · refine (rise_row g zs.length cap zs v b j w h (by omega) k1 k2 k3).mono ?_
      rintro e w1 ⟨u, rfl, n1, b1⟩
      rw [k4]
      exact ⟨u, rfl, n1.mono hb, b1⟩

set_option maxRecDepth 20000 in
set_option maxHeartbeats 4000000 in
theorem l6_links (q : Nat) (g : Int) (P : Plc) (w : World) (h : PolAt w q P) (hl : P.lanes.length ≤ 100) (hb : P.bells.length ≤ 100) :
    Calls Tryz.prog 32 #[.pointer (some ⟨q, 0, none⟩), .int .i64 g] w fun e w' => ∃ v, e = .returned v ∧ Nums w' w.heap.size v (lkV P g) ∧ Below w.heap.size w w' := by
  obtain ⟨a0, n0, c0, a1, n1, c1, a2, n2, c2, a3, n3, c3, h0, h1, h2, h3, h4⟩ := h
  have HL1 : Hid (n1 = P.lanes.length) := h4.lanes.len
  have HL2 : Hid (n2 = P.bells.length) := h4.bells.len
  have HO1 : Hid (IsLanes w a1 n1 c1 P.lanes) := h4.lanes
  have HO2 : Hid (IsPairs w a2 n2 c2 P.bells) := h4.bells
  have H1 : Hid (w.cell? ⟨q, 1, none⟩ = some (.slice a1 n1 c1)) := h1
  have H2 : Hid (w.cell? ⟨q, 2, none⟩ = some (.slice a2 n2 c2)) := h2
  have N1 : Hid (n1 ≤ 100) := by have := h4.lanes.len; show _ ≤ _; omega
  have N2 : Hid (n2 ≤ 100) := by have := h4.bells.len; show _ ≤ _; omega
  have hi1 : (n1 : Int) ≤ 100 := by have := N1.out; omega
  have hi2 : (n2 : Int) ≤ 100 := by have := N2.out; omega
  have LLB : Hid (∀ z, (lkL g z P.lanes).length ≤ z.length + P.lanes.length) := lkL_len g P.lanes
  clear h0 h1 h2 h3 h4 hl hb
  go_enter Tryz.func32, Tryz.ntmps32
  go_wp2_with fail
  go_loopw [5, 6] (fun v c wr => ∃ (j : Nat) (z : List Int), j ≤ n1 ∧ c = .int .i64 j ∧ Nums wr w.heap.size v z ∧ Below w.heap.size w wr ∧ Hid (lkL g [] P.lanes = lkL g z (P.lanes.drop j)) ∧ Hid (z.length ≤ j)) (fun _ c _ => n1 - (intOf c).toNat)
  case atStart => exact ⟨0, [], Nat.zero_le _, rfl, nums_empty _ _ (Nat.le_refl _), al (Below.refl _ _) _, by show _ = _; simp, Nat.le_refl _⟩
  case round =>
    obtain ⟨j, z, hj, rfl, hN, hB, hI, hZ⟩ := hrel
    have HN : Hid (Nums wr _ _ _) := hN
    have HB : Hid (Below _ w wr) := hB
    obtain ⟨ya, yc, hz, _, _, _⟩ := hN.shape
    generalize z.length = un at hz
    subst hz
    have h1 := cell_keep hB H1.out
    by_cases hlt : j < n1
    · obtain ⟨x, rfl, k0, k1, k2, k3, k4⟩ := (HO1.out.stay hB).at j hlt
      have hJ : (j : Int) < (n1 : Int) := by omega
      have HLT : Hid (j < n1) := hlt
      have ST : Hid (_ = _) := lkL_step g P.lanes z j (by have := HL1.out; omega)
      obtain ⟨O, hO⟩ : ∃ O, P.lanes.getD j lz = O := ⟨_, rfl⟩
      rw [hO] at k0 k1 k2 k3 k4 ST
      have RI := rise_any (.slice ya un yc) z O.fr w.heap.size wr hN (by have := hZ.out; have := N1.out; omega) hB.size
      clear hO hlt hB hN
      by_cases hd : O.dst = g
      · have S2 : Hid (lkL g z (P.lanes.drop j) = lkL g (riseV z O.fr) (P.lanes.drop (j + 1))) := by show _ = _; rw [ST.out, if_pos hd]
        clear ST
        go_wp2_with fail
        refine RI.mono ?_
        rintro e w2 ⟨u, rfl, n2', b2⟩
        have NN : Hid (Nums w2 _ _ _) := n2'
        have B2 : Hid (Below _ w w2) := on HB.out b2
        clear n2' b2 RI
        go_wp2_with fail
        go_roundw
        case rel => exact ⟨j + 1, _, by have := HLT.out; omega, by go_num, NN.out, B2.out, by show _ = _; rw [hI.out, S2.out], by have := riseV_len z O.fr; have := hZ.out; show _ ≤ _; omega⟩
        case measure => have := HLT.out; simp [intOf]; omega
      · have S2 : Hid (lkL g z (P.lanes.drop j) = lkL g z (P.lanes.drop (j + 1))) := by show _ = _; rw [ST.out, if_neg hd]
        clear ST RI
        go_wp2_with fail
        go_roundw
        case rel => exact ⟨j + 1, z, by have := HLT.out; omega, by go_num, HN.out, HB.out, by show _ = _; rw [hI.out, S2.out], by have := hZ.out; show _ ≤ _; omega⟩
        case measure => have := HLT.out; simp [intOf]; omega
    · have hJ : ¬ (j : Int) < (n1 : Int) := by omega
      have HJ : Hid (j = n1) := by show _ = _; omega
      have EZ : Hid (lkL g [] P.lanes = z) := by show _ = _; rw [hI.out, List.drop_of_length_le (by have := HL1.out; have := HJ.out; omega)]; rfl
      have ZL : Hid (z.length ≤ 100) := by have := hZ.out; have := N1.out; show _ ≤ _; omega
      clear hlt hB hN hI hZ
      go_wp2_with fail
      clear h1
      go_loopw [5, 7] (fun v c wq => ∃ (k : Nat) (y : List Int), k ≤ n2 ∧ c = .int .i64 k ∧ Nums wq w.heap.size v y ∧ Below w.heap.size w wq ∧ Hid (lkB g z P.bells = lkB g y (P.bells.drop k)) ∧ Hid (y.length ≤ 100 + k)) (fun _ c _ => n2 - (intOf c).toNat)
      case atStart => exact ⟨0, z, Nat.zero_le _, rfl, HN.out, HB.out, by show _ = _; simp, by have := ZL.out; show _ ≤ _; omega⟩
      case round =>
        clear HN HB
        obtain ⟨k, y, hk, rfl, hN, hB, hI, hZ⟩ := hrel
        have HN : Hid (Nums wr _ _ _) := hN
        have HB : Hid (Below _ w wr) := hB
        obtain ⟨ya, yc, hz, _, _, _⟩ := hN.shape
        generalize y.length = un at hz
        subst hz
        have h2 := cell_keep hB H2.out
        by_cases hlt : k < n2
        · obtain ⟨x, rfl, k0, k1⟩ := (HO2.out.stay hB).at k hlt
          have hJ2 : (k : Int) < (n2 : Int) := by omega
          have HLT : Hid (k < n2) := hlt
          have ST : Hid (_ = _) := lkB_step g P.bells y k (by have := HL2.out; omega)
          obtain ⟨⟨o1, o2⟩, hO⟩ : ∃ O, P.bells.getD k (0, 0) = O := ⟨_, rfl⟩
          rw [hO] at k0 k1 ST
          simp only at k0 k1 ST
          have RI := rise_any (.slice ya un yc) y o1 w.heap.size wr hN (by have := hZ.out; have := N2.out; omega) hB.size
          clear hO hlt hB hN
          by_cases hd : o2 = g
          · have S2 : Hid (lkB g y (P.bells.drop k) = lkB g (riseV y o1) (P.bells.drop (k + 1))) := by show _ = _; rw [ST.out, if_pos hd]
            clear ST
            go_wp2_with fail
            refine RI.mono ?_
            rintro e w2 ⟨u, rfl, n2', b2⟩
            have NN : Hid (Nums w2 _ _ _) := n2'
            have B2 : Hid (Below _ w w2) := on HB.out b2
            clear n2' b2 RI
            go_wp2_with fail
            go_roundw
            case rel => exact ⟨k + 1, _, by have := HLT.out; omega, by go_num, NN.out, B2.out, by show _ = _; rw [hI.out, S2.out], by have := riseV_len y o1; have := hZ.out; show _ ≤ _; omega⟩
            case measure => have := HLT.out; simp [intOf]; omega
          · have S2 : Hid (lkB g y (P.bells.drop k) = lkB g y (P.bells.drop (k + 1))) := by show _ = _; rw [ST.out, if_neg hd]
            clear ST RI
            go_wp2_with fail
            go_roundw
            case rel => exact ⟨k + 1, y, by have := HLT.out; omega, by go_num, HN.out, HB.out, by show _ = _; rw [hI.out, S2.out], by have := hZ.out; show _ ≤ _; omega⟩
            case measure => have := HLT.out; simp [intOf]; omega
        · have hJ2 : ¬ (k : Int) < (n2 : Int) := by omega
          have HK : Hid (k = n2) := by show _ = _; omega
          have EY : Hid (lkV P g = y) := by show _ = _; rw [lkV, EZ.out, hI.out, List.drop_of_length_le (by have := HL2.out; have := HK.out; omega)]; rfl
          clear hlt hB hN hI hZ
          go_wp2_with fail
          go_ret
          rw [EY.out]
          exact ⟨_, rfl, HN.out, HB.out⟩
end Go.Proofs.YtddeaibkdpomlaaGreatDoor
namespace Go.Proofs.YtddeaibkdpomlaaGreatDoor
open Go.RowKit
set_option linter.unusedVariables false

set_option maxRecDepth 20000 in
set_option maxHeartbeats 4000000 in
theorem i_linksTo (a0 a1 a2 a3 : Option Addr) (n0 c0 n1 c1 n2 c2 n3 c3 : Nat) (P : Plc) (gu : Int) (w : World) (h : Pl w a0 n0 c0 a1 n1 c1 a2 n2 c2 a3 n3 c3 P) (hg : w.cell? ⟨0, 0, none⟩ = some (.iface 129 (.agg #[.pointer (some ⟨1, 65, none⟩)]))) :
    Calls Tryz.prog 8 #[.agg #[.slice a0 n0 c0, .slice a1 n1 c1, .slice a2 n2 c2, .slice a3 n3 c3], .int .i64 gu] w fun e w' => ∃ v, e = .returned (.agg #[.int .i64 (askV P gu), v]) ∧ Nums w' w.heap.size v (linksZ P gu) ∧ Below w.heap.size w w' := by
  generalize hW : ((w.alloc (.cells #[.slice a0 n0 c0, .slice a1 n1 c1, .slice a2 n2 c2, .slice a3 n3 c3] 29))).alloc (.cells #[.int .i64 0, .slice none 0 0] 34) = W
  have B0 : Hid (Below w.heap.size w W) := by show Below _ _ _; rw [← hW]; exact al (al (Below.refl _ _) _) _
  obtain ⟨s, hS⟩ : ∃ s, w.heap.size = s := ⟨_, rfl⟩
  have HSs : Hid (w.heap.size = s) := hS
  have Q : Hid (W.cell? ⟨s, 0, none⟩ = some (.slice a0 n0 c0) ∧ W.cell? ⟨s, 1, none⟩ = some (.slice a1 n1 c1) ∧ W.cell? ⟨s, 2, none⟩ = some (.slice a2 n2 c2) ∧ W.cell? ⟨s, 3, none⟩ = some (.slice a3 n3 c3)) := by
    show _ ∧ _
    rw [← hW, ← hS]
    exact ⟨cell_push _ (cell_new rfl), cell_push _ (cell_new rfl), cell_push _ (cell_new rfl), cell_push _ (cell_new rfl)⟩
  have R : Hid (RsI W s) := by
    have z1 : s + 1 = ((w.alloc (.cells #[.slice a0 n0 c0, .slice a1 n1 c1, .slice a2 n2 c2, .slice a3 n3 c3] 29))).heap.size := by rw [← hS]; simp
    show RsI W s
    unfold RsI
    rw [← hW, z1]
    exact ⟨cell_new rfl, cell_new rfl, fz_new _ _ _ _, fz_new _ _ _ _, by simp⟩
  have HP : Hid (Pl W a0 n0 c0 a1 n1 c1 a2 n2 c2 a3 n3 c3 P) := h.stay B0.out
  have HA : Hid (PolAt W s P) := ⟨_, _, _, _, _, _, _, _, _, _, _, _, Q.out.1, Q.out.2.1, Q.out.2.2.1, Q.out.2.2.2, HP.out⟩
  have HG : Hid (_ = _) := cell_keep B0.out hg
  clear h hg
  have q0 := Q.out.1
  have q1 := Q.out.2.1
  have q2 := Q.out.2.2.1
  have q3 := Q.out.2.2.2
  go_enter Tryz.func8, Tryz.ntmps8
  go_wp2_with fail
  clear hW hS
  refine (i_asked _ _ _ _ _ _ _ _ _ _ _ _ P _ _ HP.out HG.out).mono ?_
  rintro e w1 ⟨rfl, b1⟩
  by_cases hz : askV P gu = 0
  · have ZV : Hid ((linksZ P gu) = linkUp P gu P.own.length) := by show _ = _; rw [linksZ, if_pos hz]; exact link_eq P gu (ask_pf P gu hz)
    have AZ : Hid (askV P gu = 0) := hz
    have GU : Hid (0 ≤ gu ∧ gu < P.own.length) := ask_guest P gu hz
    have PZ : Hid (pfV P = 0) := ask_pf P gu hz
    rw [hz]
    have B1 : Hid (Below w.heap.size w w1) := on B0.out b1
    have HPw : Hid (Pl w1 a0 n0 c0 a1 n1 c1 a2 n2 c2 a3 n3 c3 P) := HP.out.stay b1
    have HAw : Hid (PolAt w1 s P) := HA.out.stay b1
    have R1 : Hid (RsI w1 s) := R.out.keep b1
    have q0 := cell_keep b1 Q.out.1
    have q1 := cell_keep b1 Q.out.2.1
    have q2 := cell_keep b1 Q.out.2.2.1
    have q3 := cell_keep b1 Q.out.2.2.2
    clear b1 hz
    go_wp2_with fail
    refine (i_links0 _ _ _ _ _ _ _ _ _ _ _ _ P _ _ HPw.out (by have := HPw.out.own.len; have := (pf_parts P PZ.out).1; omega)).mono ?_
    rintro e w2 ⟨v, rfl, n2', b2⟩
    obtain ⟨ya, yc, hv, _, _, _⟩ := n2'.shape
    have NN : Hid (Nums w2 w.heap.size v (linkUp P gu P.own.length)) := n2'.mono B1.out.size
    have NL : Hid (∀ k, v.ownBlock = some k → w1.heap.size ≤ k) := fun k e => (n2'.lt k e).1
    have B2 : Hid (Below w.heap.size w w2) := on B1.out b2
    obtain ⟨r0, r1, f0, f1, lt⟩ := R1.out.keep b2
    have LT : Hid (s + 1 < w1.heap.size) := R1.out.2.2.2.2
    generalize (linkUp P gu P.own.length).length = ln at hv
    subst hv
    clear b2 n2'
    go_wp2_with fail
    refine bodyPost_ret (v := .agg #[.int .i64 0, .slice ya ln yc]) (by simp [results, Tryz.results8, go_sem, r0, r1]) rfl ⟨.slice ya ln yc, by rw [AZ.out], ?_, (B2.out.setCell (by have := HSs.out; show w.heap.size ≤ s + 1; omega) _).setCell (by have := HSs.out; show w.heap.size ≤ s + 1; omega) _⟩
    have ne : (Value.slice ya ln yc).ownBlock ≠ some (s + 1) := fun e => by have := NL.out _ e; have := LT.out; omega
    rw [ZV.out]
    exact (NN.out.put ⟨s + 1, 0, none⟩ (.int .i64 0) ne).put ⟨s + 1, 1, none⟩ (.slice ya ln yc) ne
  · have ZV : Hid ((linksZ P gu) = []) := by show _ = _; rw [linksZ, if_neg hz]
    obtain ⟨r0, r1, f0, f1, lt⟩ := R.out.keep b1
    have B1 : Hid (Below w.heap.size w w1) := on B0.out b1
    generalize hv : askV P gu = v at *
    have HV : Hid (askV P gu = v) := hv
    clear b1
    go_wp2_with fail
    exact bodyPost_ret (v := .agg #[.int .i64 v, .slice none 0 0]) (by simp [results, Tryz.results8, go_sem, r0, r1]) rfl ⟨.slice none 0 0, by rw [HV.out], by rw [ZV.out]; exact Nums.nil _ _, (B1.out.setCell (by have := HSs.out; show w.heap.size ≤ s + 1; omega) _).setCell (by have := HSs.out; show w.heap.size ≤ s + 1; omega) _⟩
end Go.Proofs.YtddeaibkdpomlaaGreatDoor
namespace Go.Proofs.YtddeaibkdpomlaaGreatDoor
open Go.RowKit
set_option linter.unusedVariables false

def addAll (z : List Int) : List Int → List Int
  | [] => z
  | x :: t => addAll (riseV z x) t
theorem addAll_step (z ms : List Int) (j : Nat) (h : j < ms.length) : addAll z (ms.drop j) = addAll (riseV z (ms.getD j 0)) (ms.drop (j + 1)) := by
  rw [drop_cons_getD ms 0 j h, addAll]
theorem addAll_up (ms : List Int) : ∀ z, Up z → Up (addAll z ms) := by
  induction ms with
  | nil => intro z h; exact h
  | cons x t ih => intro z h; exact ih _ (riseV_up _ _ h)
theorem addAll_mem (ms : List Int) (y : Int) : ∀ z, y ∈ addAll z ms ↔ (y ∈ z ∨ y ∈ ms) := by
  induction ms with
  | nil => intro z; simp [addAll]
  | cons x t ih =>
    intro z
    rw [addAll, ih, riseV_mem, List.mem_cons]
    constructor
    · rintro ((h | h) | h)
      · exact .inr (.inl h)
      · exact .inl h
      · exact .inr (.inr h)
    · rintro (h | h | h)
      · exact .inl (.inr h)
      · exact .inl (.inl h)
      · exact .inr h
/-- One round: what has a link to one of the list is added. -/
def nextF (P : Plc) (z : List Int) : List Int → List Int
  | [] => z
  | x :: t => nextF P (addAll z (lkV P x)) t
def nextV (P : Plc) (o : List Int) : List Int := nextF P o o
theorem nextF_step (P : Plc) (z o : List Int) (j : Nat) (h : j < o.length) : nextF P z (o.drop j) = nextF P (addAll z (lkV P (o.getD j 0))) (o.drop (j + 1)) := by
  rw [drop_cons_getD o 0 j h, nextF]
theorem nextF_up (P : Plc) (o : List Int) : ∀ z, Up z → Up (nextF P z o) := by
  induction o with
  | nil => intro z h; exact h
  | cons x t ih => intro z h; exact ih _ (addAll_up _ _ h)
theorem nextF_mem (P : Plc) (o : List Int) (y : Int) : ∀ z, y ∈ nextF P z o ↔ (y ∈ z ∨ ∃ x ∈ o, y ∈ lkV P x) := by
  induction o with
  | nil => intro z; simp [nextF]
  | cons x t ih =>
    intro z
    rw [nextF, ih, addAll_mem]
    simp only [List.mem_cons, exists_eq_or_imp]
    exact or_assoc
def rch (P : Plc) (g : Int) : List Int := nextV P (nextV P (nextV P (lkV P g)))
def In3 (z : List Int) : Prop := ∀ x ∈ z, 0 ≤ x ∧ x < 3
theorem lk_up (P : Plc) (g : Int) : Up (lkV P g) := lkB_up _ _ _ (lkL_up _ _ _ List.Pairwise.nil)
theorem lk_in3 (P : Plc) (h : pfV P = 0) (g : Int) : In3 (lkV P g) := by
  intro x hx
  rw [link_eq P g h] at hx
  have := (linkUp_mem P g x _).1 hx
  have := (pf_parts P h).1
  omega
theorem next_up (P : Plc) (o : List Int) (h : Up o) : Up (nextV P o) := nextF_up P o o h
theorem next_in3 (P : Plc) (hp : pfV P = 0) (o : List Int) (h : In3 o) : In3 (nextV P o) := by
  intro x hx
  rcases (nextF_mem P o x o).1 hx with h1 | ⟨y, _, h1⟩
  · exact h x h1
  · exact lk_in3 P hp y x h1
theorem next_sub (P : Plc) (o : List Int) : ∀ x ∈ o, x ∈ nextV P o := fun x hx => (nextF_mem P o x o).2 (.inl hx)
theorem next_has (P : Plc) (o : List Int) (y : Int) (hy : y ∈ o) : ∀ x ∈ lkV P y, x ∈ nextV P o := fun x hx => (nextF_mem P o x o).2 (.inr ⟨y, hy, hx⟩)
theorem up_sub (b : List Int) : ∀ a : List Int, Up a → Up b → (∀ x ∈ a, x ∈ b) → a.length ≤ b.length ∧ (a.length = b.length → a = b) := by
  induction b with
  | nil =>
    intro a _ _ h
    cases a with
    | nil => exact ⟨Nat.le_refl _, fun _ => rfl⟩
    | cons x t => have := h x (by simp); cases this
  | cons y b ih =>
    intro a ha hb h
    cases a with
    | nil => exact ⟨Nat.zero_le _, fun e => by simp at e⟩
    | cons x s =>
      unfold Up at ha hb
      rw [List.pairwise_cons] at ha hb
      by_cases e : x = y
      · subst e
        have hs : ∀ z ∈ s, z ∈ b := fun z hz => by
          rcases List.mem_cons.1 (h z (List.mem_cons_of_mem _ hz)) with e2 | h2
          · have := ha.1 z hz; omega
          · exact h2
        obtain ⟨i1, i2⟩ := ih s ha.2 hb.2 hs
        exact ⟨by simp; omega, fun e2 => by rw [i2 (by simpa using e2)]⟩
      · have hx : x ∈ b := by
          rcases List.mem_cons.1 (h x (by simp)) with e2 | h2
          · exact absurd e2 e
          · exact h2
        have hs : ∀ z ∈ x :: s, z ∈ b := fun z hz => by
          rcases List.mem_cons.1 (h z hz) with e2 | h2
          · have hy := hb.1 x hx
            rcases List.mem_cons.1 hz with e3 | h3
            · omega
            · have := ha.1 z h3; omega
          · exact h2
        obtain ⟨i1, i2⟩ := ih (x :: s) (List.pairwise_cons.2 ha) hb.2 hs
        exact ⟨by simp at i1 ⊢; omega, fun e2 => by simp at i1 e2; omega⟩
theorem up3 (a : List Int) (h : Up a) (k : In3 a) : a.length ≤ 3 := by
  match a, h, k with
  | [], _, _ => exact Nat.zero_le _
  | [_], _, _ => exact Nat.succ_le_succ (Nat.zero_le _)
  | [_, _], _, _ => exact Nat.succ_le_succ (Nat.succ_le_succ (Nat.zero_le _))
  | [_, _, _], _, _ => exact Nat.le_refl _
  | x :: y :: z :: u :: t, h, k =>
    unfold Up at h
    have h1 := (List.pairwise_cons.1 h)
    have h2 := (List.pairwise_cons.1 h1.2)
    have h3 := (List.pairwise_cons.1 h2.2)
    have a1 := h1.1 y (by simp)
    have a2 := h2.1 z (by simp)
    have a3 := h3.1 u (by simp)
    have b1 := k x (by simp)
    have b2 := k u (by simp)
    omega
theorem next_stay (P : Plc) (o : List Int) (h : nextV P o = o) : ∀ y ∈ o, ∀ x ∈ lkV P y, x ∈ o := fun y hy x hx => by
  have := next_has P o y hy x hx
  rw [h] at this
  exact this
/-- Behind three rounds nothing comes in any more. -/
theorem rch_closed (P : Plc) (hp : pfV P = 0) (g : Int) : ∀ y ∈ rch P g, ∀ x ∈ lkV P y, x ∈ rch P g := by
  have u0 := lk_up P g
  have i0 := lk_in3 P hp g
  unfold rch
  generalize lkV P g = o0 at *
  have u1 := next_up P o0 u0
  have u2 := next_up P _ u1
  have u3 := next_up P _ u2
  have i1 := next_in3 P hp o0 i0
  have i2 := next_in3 P hp _ i1
  have i3 := next_in3 P hp _ i2
  have s1 := up_sub _ _ u0 u1 (next_sub P o0)
  have s2 := up_sub _ _ u1 u2 (next_sub P _)
  have s3 := up_sub _ _ u2 u3 (next_sub P _)
  have l3 := up3 _ u3 i3
  have key : nextV P (nextV P (nextV P o0)) = nextV P (nextV P o0) := by
    by_cases e1 : o0.length = (nextV P o0).length
    · have e : nextV P o0 = o0 := (s1.2 e1).symm
      rw [e, e, e]
    · by_cases e2 : (nextV P o0).length = (nextV P (nextV P o0)).length
      · have e : nextV P (nextV P o0) = nextV P o0 := (s2.2 e2).symm
        rw [e, e]
      · by_cases e3 : (nextV P (nextV P o0)).length = (nextV P (nextV P (nextV P o0))).length
        · exact (s3.2 e3).symm
        · have hz : o0.length = 0 := by omega
          have he : o0 = [] := List.eq_nil_of_length_eq_zero hz
          subst he
          exact absurd rfl e1
  rw [key]
  exact next_stay P _ key
theorem rch_least (P : Plc) (g : Int) (S : Int → Prop) (h1 : ∀ x ∈ lkV P g, S x) (h2 : ∀ y, S y → ∀ x ∈ lkV P y, S x) : ∀ x ∈ rch P g, S x := by
  have step : ∀ o : List Int, (∀ x ∈ o, S x) → ∀ x ∈ nextV P o, S x := fun o h x hx => by
    rcases (nextF_mem P o x o).1 hx with h3 | ⟨y, hy, h3⟩
    · exact h x h3
    · exact h2 y (h y hy) x h3
  exact step _ (step _ (step _ h1))
theorem rch_first (P : Plc) (g : Int) : ∀ x ∈ lkV P g, x ∈ rch P g := fun x hx => next_sub P _ x (next_sub P _ x (next_sub P _ x hx))
theorem rch_up (P : Plc) (g : Int) : Up (rch P g) := next_up P _ (next_up P _ (next_up P _ (lk_up P g)))
theorem rch_in3 (P : Plc) (hp : pfV P = 0) (g : Int) : In3 (rch P g) := next_in3 P hp _ (next_in3 P hp _ (next_in3 P hp _ (lk_in3 P hp g)))
/-- A list that is closed, holds the first ones and no more than it must, put in order, is this list. -/
theorem rch_eq (P : Plc) (hp : pfV P = 0) (g : Int) (r ys : List Int) (hy : Up ys) (hm : ∀ x, x ∈ ys ↔ x ∈ r) (h1 : ∀ x ∈ lkV P g, x ∈ r) (h2 : ∀ y ∈ r, ∀ x ∈ lkV P y, x ∈ r) (h3 : ∀ x ∈ r, x ∈ rch P g) : ys = rch P g := by
  refine up_ext _ _ hy (rch_up P g) (fun x => ?_)
  rw [hm]
  exact ⟨h3 x, rch_least P g (fun x => x ∈ r) h1 h2 x⟩
theorem nodup3 (r : List Int) (h : r.Nodup) (k : In3 r) : r.length ≤ 3 := by
  match r, h, k with
  | [], _, _ => exact Nat.zero_le _
  | [_], _, _ => exact Nat.succ_le_succ (Nat.zero_le _)
  | [_, _], _, _ => exact Nat.succ_le_succ (Nat.succ_le_succ (Nat.zero_le _))
  | [_, _, _], _, _ => exact Nat.le_refl _
  | x :: y :: z :: u :: t, h, k =>
    have h1 := (List.nodup_cons.1 h)
    have h2 := (List.nodup_cons.1 h1.2)
    have h3 := (List.nodup_cons.1 h2.2)
    have b1 := k x (by simp)
    have b2 := k y (by simp)
    have b3 := k z (by simp)
    have b4 := k u (by simp)
    have n1 : x ≠ y := fun e => h1.1 (by simp [e])
    have n2 : x ≠ z := fun e => h1.1 (by simp [e])
    have n3 : x ≠ u := fun e => h1.1 (by simp [e])
    have n4 : y ≠ z := fun e => h2.1 (by simp [e])
    have n5 : y ≠ u := fun e => h2.1 (by simp [e])
    have n6 : z ≠ u := fun e => h3.1 (by simp [e])
    omega
theorem up_nodup (a : List Int) (h : Up a) : a.Nodup := List.Pairwise.imp (fun h => Int.ne_of_lt h) h
def reachZ (P : Plc) (g : Int) : List Int := if askV P g = 0 then rch P g else []
theorem reach_len (P : Plc) (g : Int) : (reachZ P g).length ≤ 3 := by
  unfold reachZ
  split
  · rename_i h
    exact up3 _ (rch_up P g) (rch_in3 P (ask_pf P g h) g)
  · exact Nat.zero_le _
end Go.Proofs.YtddeaibkdpomlaaGreatDoor
namespace Go.Proofs.YtddeaibkdpomlaaGreatDoor
open Go.RowKit
set_option linter.unusedVariables false

theorem less_nan (x : Int) (w : World) : Calls Tryz.prog 72 #[.int .i64 x] w fun e w' => e = .returned (.bool false) ∧ w' = w := by
  go_enter Tryz.func72, Tryz.ntmps72
  go_wp2_with fail
  go_ret
  exact ⟨by first | rfl | simp, rfl⟩
theorem less_int (x y : Int) (w : World) : Calls Tryz.prog 49 #[.int .i64 x, .int .i64 y] w fun e w' => e = .returned (.bool (decide (x < y))) ∧ w' = w := by
  go_enter Tryz.func49, Tryz.ntmps49
  go_wp2_with (go_at_call 72; refine (less_nan _ _).mono ?_; rintro e w ⟨rfl, rfl⟩)
  go_ret
  exact ⟨by first | rfl | simp, rfl⟩

theorem grown_dr {w w' : World} {r : Option Nat} (h : w.grownBy w' r) (n : Nat) : w.grownBy (w'.drewN n) r := ⟨h.os, h.tape, h.output, h.size, h.block⟩
theorem grown_as {w a b : World} {r : Option Nat} (h : w.grownBy a r) (h1 : b.os = a.os) (h2 : b.tape = a.tape) (h3 : b.output = a.output) (h4 : b.heap = a.heap) : w.grownBy b r :=
  ⟨h1.trans h.os, h2.trans h.tape, h3.trans h.output, by rw [h4]; exact h.size, fun k hk hn => by rw [h4]; exact h.block k hk hn⟩
theorem ins_up (S : List Int) (x : Int) (j : Nat) (h : Up S) (h1 : ∀ y ∈ S.drop j, x < y) (h2 : ∀ y ∈ S.take j, y < x) : Up (S.take j ++ x :: S.drop j) := by
  unfold Up at *
  rw [List.pairwise_append, List.pairwise_cons]
  refine ⟨h.sublist (List.take_sublist _ _), ⟨h1, h.sublist (List.drop_sublist _ _)⟩, fun a ha b hb => ?_⟩
  rcases List.mem_cons.1 hb with rfl | hb
  · exact h2 a ha
  · have := h2 a ha; have := h1 b hb; omega
theorem ins_mem (S : List Int) (x y : Int) (j : Nat) : y ∈ S.take j ++ x :: S.drop j ↔ (y = x ∨ y ∈ S) := by
  rw [List.mem_append, List.mem_cons]
  have e : y ∈ S ↔ (y ∈ S.take j ∨ y ∈ S.drop j) := by rw [← List.mem_append, List.take_append_drop]
  rw [e]
  constructor
  · rintro (h | h | h)
    · exact .inr (.inl h)
    · exact .inl h
    · exact .inr (.inr h)
  · rintro (h | h | h)
    · exact .inr (.inl h)
    · exact .inl h
    · exact .inr (.inr h)
theorem ins_get (S T : List Int) (x : Int) (k : Nat) (h : k < S.length) : (S.take (k + 1) ++ x :: S.drop (k + 1) ++ T).getD (k + 1) 0 = x ∧ (S.take (k + 1) ++ x :: S.drop (k + 1) ++ T).getD k 0 = S.getD k 0 := by
  constructor
  · rw [List.append_assoc, List.getD, List.getElem?_append_right (by rw [List.length_take]; omega), List.length_take, show k + 1 - min (k + 1) S.length = 0 by omega]
    rfl
  · rw [List.append_assoc, List.getD, List.getElem?_append_left (by rw [List.length_take]; omega), List.getElem?_take_of_lt (by omega)]
    rfl
theorem ins_swap (S T : List Int) (x : Int) (k : Nat) (h : k < S.length) : ((S.take (k + 1) ++ x :: S.drop (k + 1) ++ T).set (k + 1) (S.getD k 0)).set k x = S.take k ++ x :: S.drop k ++ T := by
  have e1 : S.take (k + 1) = S.take k ++ [S.getD k 0] := take_succ_getD S 0 k h
  have e2 : S.drop k = S.getD k 0 :: S.drop (k + 1) := drop_cons_getD S 0 k h
  have l1 : (S.take k).length = k := by rw [List.length_take]; omega
  rw [e1, e2]
  generalize S.take k = A at *
  generalize S.drop (k + 1) = B at *
  generalize S.getD k 0 = y at *
  subst l1
  rw [List.append_assoc, List.append_assoc, List.set_append_right _ _ (by omega), List.set_append_right _ _ (by omega)]
  simp
theorem ins_swap2 (S T : List Int) (x : Int) (k : Nat) (h : k < S.length) : ((S.take (k + 1) ++ x :: S.drop (k + 1) ++ T).set k x).set (k + 1) (S.getD k 0) = S.take k ++ x :: S.drop k ++ T := by
  rw [List.set_comm _ _ (by omega)]
  exact ins_swap S T x k h
theorem nodup_out (zs S : List Int) (i : Nat) (hd : zs.Nodup) (hi : i < zs.length) (hm : ∀ x, x ∈ S ↔ x ∈ zs.take i) : zs.getD i 0 ∉ S := by
  intro hx
  have h1 := (hm _).1 hx
  have h2 : zs = zs.take i ++ zs.getD i 0 :: zs.drop (i + 1) := by
    rw [← drop_cons_getD zs 0 i hi, List.take_append_drop]
  rw [h2] at hd
  exact (List.nodup_append.1 hd).2.2 _ h1 (zs.getD i 0) (List.mem_cons_self ..) rfl

set_option maxRecDepth 20000 in
set_option maxHeartbeats 4000000 in
theorem ins_sort (g n cap b : Nat) (zs : List Int) (w : World) (h : Nums w b (.slice (some ⟨g, 0, none⟩) n cap) zs) (hn : n ≤ 12) (hn1 : 1 ≤ n) (hd : zs.Nodup) :
    Calls Tryz.prog 43 #[.slice (some ⟨g, 0, none⟩) n cap, .int .i64 0, .int .i64 (n : Int)] w fun e w' => e = .returned (.tuple #[]) ∧ ∃ ys, Nums w' b (.slice (some ⟨g, 0, none⟩) n cap) ys ∧ Up ys ∧ (∀ x, x ∈ ys ↔ x ∈ zs) ∧ w.grownBy w' (some g) := by
  have HZ : Hid (Nums w b (.slice (some ⟨g, 0, none⟩) n cap) zs) := h
  have HL : Hid (n = zs.length ∧ 1 ≤ n ∧ n ≤ 12) := ⟨h.len, hn1, hn⟩
  have HD : Hid zs.Nodup := hd
  have hni : (n : Int) ≤ 12 := by omega
  clear h hn hn1 hd
  go_enter Tryz.func43, Tryz.ntmps43
  go_wp2_with fail
  go_loopw [6, 7] (fun c _ wr => ∃ (i : Nat) (S : List Int), 1 ≤ i ∧ i ≤ n ∧ c = .int .i64 i ∧ Nums wr b (.slice (some ⟨g, 0, none⟩) n cap) (S ++ zs.drop i) ∧ Hid (S.length = i ∧ Up S ∧ ∀ x, x ∈ S ↔ x ∈ zs.take i) ∧ w.grownBy wr (some g)) (fun c _ _ => n - (intOf c).toNat)
  case atStart =>
    refine ⟨1, zs.take 1, Nat.le_refl _, HL.out.2.1, rfl, by rw [List.take_append_drop]; exact HZ.out, ⟨by rw [List.length_take]; have := HL.out; omega, ?_, fun _ => Iff.rfl⟩, World.grownBy.refl _ _⟩
    have := HL.out
    cases hz : zs with
    | nil => rw [hz] at this; simp at this; omega
    | cons x t => simp [Up]
  case round =>
    obtain ⟨i, S, hi1, hin, rfl, hN, hS, hG⟩ := hrel
    have HN : Hid (Nums wr b _ _) := hN
    have HG : Hid (w.grownBy wr (some g)) := hG
    by_cases hlt : i < n
    · have hI : (i : Int) < (n : Int) := by omega
      have HI : Hid (i < n ∧ 1 ≤ i) := ⟨hlt, hi1⟩
      have HX : Hid (zs.getD i 0 ∉ S) := nodup_out zs S i HD.out (by have := HL.out; omega) hS.out.2.2
      have ED : Hid (zs.drop i = zs.getD i 0 :: zs.drop (i + 1)) := drop_cons_getD zs 0 i (by have := HL.out; omega)
      have EM : Hid (∀ y, y ∈ zs.take (i + 1) ↔ (y = zs.getD i 0 ∨ y ∈ zs.take i)) := fun y => by
        rw [take_succ_getD zs 0 i (by have := HL.out; omega), List.mem_append, List.mem_singleton]
        exact or_comm
      obtain ⟨T, hT⟩ : ∃ T, zs.drop (i + 1) = T := ⟨_, rfl⟩
      have HT : Hid (zs.drop (i + 1) = T) := hT
      generalize zs.getD i 0 = x at *
      have N0 : Hid (Nums wr b (.slice (some ⟨g, 0, none⟩) n cap) (S.take i ++ x :: S.drop i ++ T)) := by
        have h1 := HN.out
        rw [ED.out, HT.out] at h1
        rw [List.take_of_length_le (by have := hS.out.1; omega), List.drop_of_length_le (by have := hS.out.1; omega), List.append_assoc]
        exact h1
      clear hN hG hlt hT HN
      go_wp2_with fail
      go_loopw [7] (fun c wq => ∃ j : Nat, j ≤ i ∧ c = .int .i64 j ∧ Nums wq b (.slice (some ⟨g, 0, none⟩) n cap) (S.take j ++ x :: S.drop j ++ T) ∧ Hid (∀ y ∈ S.drop j, x < y) ∧ w.grownBy wq (some g)) (fun c _ => (intOf c).toNat)
      case atStart =>
        have hd0 : S.drop i = [] := List.drop_of_length_le (by have := hS.out.1; omega)
        exact ⟨i, Nat.le_refl _, rfl, N0.out, (show ∀ y ∈ S.drop i, x < y by rw [hd0]; intro y hy; cases hy), HG.out⟩
      case round =>
        clear HG N0
        obtain ⟨j, hj, rfl, hN, hY, hG⟩ := hrel
        have HN : Hid (Nums wr b _ _) := hN
        have HG : Hid (w.grownBy wr (some g)) := hG
        have FIN : Hid ((∀ y ∈ S.take j, y < x) → ∃ S', S'.length = i + 1 ∧ Up S' ∧ (∀ y, y ∈ S' ↔ y ∈ zs.take (i + 1)) ∧ Nums wr b (.slice (some ⟨g, 0, none⟩) n cap) (S' ++ zs.drop (i + 1))) := fun hlow =>
          ⟨S.take j ++ x :: S.drop j, by have := hS.out.1; simp; omega, ins_up S x j hS.out.2.1 hY.out hlow, fun y => by rw [ins_mem, EM.out, hS.out.2.2], by rw [HT.out]; exact hN⟩
        cases j with
        | zero =>
          obtain ⟨S', e1, e2, e3, e4⟩ := FIN.out (fun y hy => by simp at hy)
          have NE : Hid (Nums wr b (.slice (some ⟨g, 0, none⟩) n cap) (S' ++ zs.drop (i + 1))) := e4
          have SE : Hid (S'.length = i + 1 ∧ Up S' ∧ ∀ y, y ∈ S' ↔ y ∈ zs.take (i + 1)) := ⟨e1, e2, e3⟩
          clear hN hG e1 e2 e3 e4 FIN
          go_wp2_with fail
          go_quiet (fail)
          go_wp2_with fail
          go_roundw
          case rel => exact ⟨i + 1, S', by omega, by have := HI.out; omega, by go_num, NE.out, SE, grown_dr HG.out _⟩
          case measure => have := HI.out; simp [intOf]; omega
        | succ k =>
          have hkS : k < S.length := by have := hS.out.1; omega
          have hll : n = (S.take (k + 1) ++ x :: S.drop (k + 1) ++ T).length := hN.len
          have gg := ins_get S T x k hkS
          have c1 := hN.cell hll (k + 1) (by have := HI.out; omega)
          have c0 := hN.cell hll k (by have := HI.out; omega)
          rw [gg.1] at c1
          rw [gg.2] at c0
          have f1 := hN.free hll (k + 1)
          have f0 := hN.free hll k
          have NX : Hid (Nums ((wr.setCell ⟨g, k + 1, none⟩ (.int .i64 (S.getD k 0))).setCell ⟨g, k, none⟩ (.int .i64 x)) b (.slice (some ⟨g, 0, none⟩) n cap) (S.take k ++ x :: S.drop k ++ T)) := by
            have h1 := (hN.store (k + 1) (S.getD k 0)).1
            have h2 := (h1.store k x).1
            rw [ins_swap S T x k hkS] at h2
            exact h2
          have NX2 : Hid (Nums ((wr.setCell ⟨g, k, none⟩ (.int .i64 x)).setCell ⟨g, k + 1, none⟩ (.int .i64 (S.getD k 0))) b (.slice (some ⟨g, 0, none⟩) n cap) (S.take k ++ x :: S.drop k ++ T)) := by
            have h1 := (hN.store k x).1
            have h2 := (h1.store (k + 1) (S.getD k 0)).1
            rw [ins_swap2 S T x k hkS] at h2
            exact h2
          have GX : Hid (w.grownBy ((wr.setCell ⟨g, k + 1, none⟩ (.int .i64 (S.getD k 0))).setCell ⟨g, k, none⟩ (.int .i64 x)) (some g)) := grown_trans HG.out (grown_trans (grown_set wr ⟨g, k + 1, none⟩ _) (grown_set _ ⟨g, k, none⟩ _))
          have GX2 : Hid (w.grownBy ((wr.setCell ⟨g, k, none⟩ (.int .i64 x)).setCell ⟨g, k + 1, none⟩ (.int .i64 (S.getD k 0))) (some g)) := grown_trans HG.out (grown_trans (grown_set wr ⟨g, k, none⟩ _) (grown_set _ ⟨g, k + 1, none⟩ _))
          have YK : Hid (x < S.getD k 0 → ∀ y ∈ S.drop k, x < y) := fun hlt y hy => by
            rw [drop_cons_getD S 0 k hkS] at hy
            rcases List.mem_cons.1 hy with e | hy
            · rw [e]; exact hlt
            · exact hY.out y hy
          have LOW : Hid (¬ x < S.getD k 0 → ∀ y ∈ S.take (k + 1), y < x) := fun hlt y hy => by
            have hne : S.getD k 0 ≠ x := fun e => HX.out (by rw [← e]; exact getD_mem S 0 k hkS)
            have hu := hS.out.2.1
            rw [take_succ_getD S 0 k hkS, List.mem_append, List.mem_singleton] at hy
            rcases hy with hy | hy
            · have h3 : S = S.take k ++ S.getD k 0 :: S.drop (k + 1) := by rw [← drop_cons_getD S 0 k hkS, List.take_append_drop]
              unfold Up at hu
              rw [h3, List.pairwise_append] at hu
              have h4 := hu.2.2 y hy _ (List.mem_cons_self ..)
              have h5 : S.getD k 0 < x := by omega
              omega
            · omega
          generalize S.getD k 0 = yv at *
          have hw : IntKind.i64.wrap (((k + 1 : Nat) : Int) - 1) = (k : Int) := by rw [IntKind.wrap_i64]; omega
          have hgt : (0 : Int) < ((k + 1 : Nat) : Int) := by omega
          have hkn : ((k + 1 : Nat) : Int) < (n : Int) := by have := HI.out; omega
          have hkn0 : (k : Int) < (n : Int) := by have := HI.out; omega
          have HKI : Hid (k + 1 ≤ i) := hj
          clear hN hG hll gg hkS
          by_cases hxy : x < yv
          · have YY : Hid (∀ y ∈ S.drop k, x < y) := YK.out hxy
            clear FIN
            go_wp2_with fail
            go_quiet ((go_at_call 49; exact Calls.quiet_of_same (less_int _ _ _)))
            go_wp2_with fail
            go_region
            all_goals go_wp2_with fail
            all_goals go_roundw
            all_goals first
              | exact ⟨k, by have := HKI.out; omega, by go_num, by first | exact NX.out | exact NX2.out, YY, by first | exact GX.out | exact GX2.out | exact grown_as GX.out rfl rfl rfl rfl | exact grown_as GX2.out rfl rfl rfl rfl⟩
              | (have := HKI.out; simp [intOf] <;> omega)
          · obtain ⟨S', e1, e2, e3, e4⟩ := FIN.out (LOW.out hxy)
            have NE : Hid (Nums wr b (.slice (some ⟨g, 0, none⟩) n cap) (S' ++ zs.drop (i + 1))) := e4
            have SE : Hid (S'.length = i + 1 ∧ Up S' ∧ ∀ y, y ∈ S' ↔ y ∈ zs.take (i + 1)) := ⟨e1, e2, e3⟩
            clear e1 e2 e3 e4 FIN
            go_wp2_with fail
            go_quiet ((go_at_call 49; exact Calls.quiet_of_same (less_int _ _ _)))
            go_wp2_with fail
            go_roundw
            case rel => exact ⟨i + 1, S', by omega, by have := HI.out; omega, by go_num, NE.out, SE, grown_dr HG.out _⟩
            case measure => have := HI.out; simp [intOf]; omega
    · have hI : ¬ (i : Int) < (n : Int) := by omega
      have HE : Hid (i = zs.length) := by show _ = _; have := HL.out; omega
      clear hN hG hlt
      go_wp2_with fail
      refine bodyPost_end (v := .tuple #[]) (by simp [results, Tryz.results43]) rfl ⟨rfl, S, ?_, hS.out.2.1, fun x => by rw [hS.out.2.2, HE.out, List.take_length], HG.out⟩
      have := HN.out
      rwa [HE.out, List.drop_length, List.append_nil] at this
end Go.Proofs.YtddeaibkdpomlaaGreatDoor
namespace Go.Proofs.YtddeaibkdpomlaaGreatDoor
open Go.RowKit
set_option linter.unusedVariables false

set_option maxRecDepth 20000 in
set_option maxHeartbeats 4000000 in
theorem pdq_sort (g n cap b : Nat) (lim : Int) (zs : List Int) (w : World) (h : Nums w b (.slice (some ⟨g, 0, none⟩) n cap) zs) (hn : n ≤ 12) (hn1 : 1 ≤ n) (hd : zs.Nodup) :
    Calls Tryz.prog 28 #[.slice (some ⟨g, 0, none⟩) n cap, .int .i64 0, .int .i64 (n : Int), .int .i64 lim] w fun e w' => e = .returned (.tuple #[]) ∧ ∃ ys, Nums w' b (.slice (some ⟨g, 0, none⟩) n cap) ys ∧ Up ys ∧ (∀ x, x ∈ ys ↔ x ∈ zs) ∧ w.grownBy w' (some g) := by
  have CS := ins_sort g n cap b zs w h hn hn1 hd
  have hni : (n : Int) ≤ 12 := by omega
  clear h hn hn1 hd
  go_enter Tryz.func28, Tryz.ntmps28
  go_wp2_with fail
  go_loopw [1, 2] (fun a b wr => a = .int .i64 0 ∧ b = .int .i64 (n : Int) ∧ wr = w) (fun _ _ _ => 0)
  case atStart => exact ⟨rfl, rfl, rfl⟩
  case round =>
    obtain ⟨rfl, rfl, rfl⟩ := hrel
    go_wp2_with fail
    refine CS.mono ?_
    rintro e w2 ⟨rfl, ys, h1, h2, h3, h4⟩
    have HH : Hid (∃ ys, Nums w2 b (.slice (some ⟨g, 0, none⟩) n cap) ys ∧ Up ys ∧ (∀ x, x ∈ ys ↔ x ∈ zs) ∧ wr.grownBy w2 (some g)) := ⟨ys, h1, h2, h3, h4⟩
    clear CS h1 h2 h3 h4
    go_wp2_with fail
    exact bodyPost_ret (v := .tuple #[]) (by simp [results, Tryz.results28]) rfl ⟨rfl, HH.out⟩

set_option maxRecDepth 20000 in
set_option maxHeartbeats 4000000 in
theorem bits_len64 (n : Nat) (w : World) (hn : n ≤ 3) : Calls Tryz.prog 53 #[.int .u64 (n : Int)] w fun e w' => (∃ v : Int, e = .returned (.int .i64 v)) ∧ w' = w := by
  have : n = 0 ∨ n = 1 ∨ n = 2 ∨ n = 3 := by omega
  rcases this with rfl | rfl | rfl | rfl <;>
    (go_enter Tryz.func53, Tryz.ntmps53
     go_wp2_with fail
     go_ret
     exact ⟨⟨_, rfl⟩, rfl⟩)
theorem bits_len (n : Nat) (w : World) (hn : n ≤ 3) : Calls Tryz.prog 29 #[.int .u64 (n : Int)] w fun e w' => (∃ v : Int, e = .returned (.int .i64 v)) ∧ w' = w := by
  have CL := fun w => bits_len64 n w hn
  have hn3 : (n : Int) ≤ 3 := by omega
  clear hn
  go_enter Tryz.func29, Tryz.ntmps29
  go_wp2_with (go_at_call 53; refine (CL _).mono ?_; rintro e w ⟨⟨v, rfl⟩, rfl⟩)
  go_ret
  exact ⟨⟨_, rfl⟩, rfl⟩
set_option maxRecDepth 20000 in
theorem ins_sort0 (a : Option Addr) (cap : Nat) (w : World) :
    Calls Tryz.prog 43 #[.slice a 0 cap, .int .i64 0, .int .i64 0] w fun e w' => e = .returned (.tuple #[]) ∧ w' = w := by
  go_enter Tryz.func43, Tryz.ntmps43
  go_wp2_with fail
  go_loop [6] (fun c => c = .int .i64 1) (fun _ => 0)
  case atStart => rfl
  case round =>
    subst hrel
    go_wp2_with fail
    exact bodyPost_end (v := .tuple #[]) (by simp [results, Tryz.results43]) rfl ⟨rfl, rfl⟩
set_option maxRecDepth 20000 in
set_option maxHeartbeats 4000000 in
theorem pdq_sort0 (a : Option Addr) (cap : Nat) (lim : Int) (w : World) :
    Calls Tryz.prog 28 #[.slice a 0 cap, .int .i64 0, .int .i64 0, .int .i64 lim] w fun e w' => e = .returned (.tuple #[]) ∧ w' = w := by
  have CS := ins_sort0 a cap w
  go_enter Tryz.func28, Tryz.ntmps28
  go_wp2_with fail
  go_loopw [1, 2] (fun a b wr => a = .int .i64 0 ∧ b = .int .i64 0 ∧ wr = w) (fun _ _ _ => 0)
  case atStart => exact ⟨rfl, rfl, rfl⟩
  case round =>
    obtain ⟨rfl, rfl, rfl⟩ := hrel
    go_wp2_with fail
    refine CS.mono ?_
    rintro e wr ⟨rfl, rfl⟩
    clear CS
    go_wp2_with fail
    exact bodyPost_ret (v := .tuple #[]) (by simp [results, Tryz.results28]) rfl ⟨rfl, rfl⟩
/-- slices.Sort of at most three numbers, all different. -/
theorem sort_few (v : Value) (zs : List Int) (b : Nat) (w : World) (h : Nums w b v zs) (hl : zs.length ≤ 3) (hd : zs.Nodup) :
    Calls Tryz.prog 17 #[v] w fun e w' => e = .returned (.tuple #[]) ∧ ∃ ys, Nums w' b v ys ∧ Up ys ∧ (∀ x, x ∈ ys ↔ x ∈ zs) ∧ w.grownBy w' v.ownBlock := by
  obtain ⟨a, cap, rfl, l1, l2, hg⟩ := h.shape
  by_cases hz : zs.length = 0
  · have CP := fun lim => pdq_sort0 a cap lim w
    have CB := bits_len 0 w (by omega)
    have he : zs = [] := List.eq_nil_of_length_eq_zero hz
    subst he
    have HN : Hid (Nums w b (.slice a 0 cap) []) := h
    clear h hl hd hg l1 l2
    go_enter Tryz.func17, Tryz.ntmps17
    go_wp2_with (first | (go_at_call 29; refine CB.mono ?_; rintro e w ⟨⟨v, rfl⟩, rfl⟩) | (go_at_call 28; refine (CP _).mono ?_; rintro e w ⟨rfl, rfl⟩))
    exact bodyPost_end (v := .tuple #[]) (by simp [results, Tryz.results17]) rfl ⟨rfl, [], HN.out, List.Pairwise.nil, fun _ => Iff.rfl, World.grownBy.refl _ _⟩
  · obtain ⟨g, rfl⟩ := hg (by omega)
    obtain ⟨n, hn⟩ : ∃ n, zs.length = n := ⟨_, rfl⟩
    rw [hn] at h hl hz ⊢
    have CP := fun lim => pdq_sort g n cap b lim zs w h (by omega) (by omega) hd
    have CB := bits_len n w hl
    have hnI : (n : Int) ≤ 3 := by omega
    clear h hl hd hg l1 l2 hn hz
    go_enter Tryz.func17, Tryz.ntmps17
    go_wp2_with (go_at_call 29; refine CB.mono ?_; rintro e w ⟨⟨v, rfl⟩, rfl⟩)
    refine (CP _).mono ?_
    rintro e w2 ⟨rfl, ys, h1, h2, h3, h4⟩
    have HH : Hid (∃ ys, Nums w2 b (.slice (some ⟨g, 0, none⟩) n cap) ys ∧ Up ys ∧ (∀ x, x ∈ ys ↔ x ∈ zs) ∧ w.grownBy w2 (some g)) := ⟨ys, h1, h2, h3, h4⟩
    clear CP h1 h2 h3 h4
    go_wp2_with fail
    exact bodyPost_end (v := .tuple #[]) (by simp [results, Tryz.results17]) rfl ⟨rfl, HH.out⟩
end Go.Proofs.YtddeaibkdpomlaaGreatDoor
namespace Go.Proofs.YtddeaibkdpomlaaGreatDoor
open Go.RowKit
set_option linter.unusedVariables false

def iterN (P : Plc) : Nat → List Int → List Int
  | 0, z => z
  | k + 1, z => iterN P k (nextV P z)
theorem rise_ok (z : List Int) (x : Int) (h : Up z ∧ In3 z) (hx : 0 ≤ x ∧ x < 3) : Up (riseV z x) ∧ In3 (riseV z x) :=
  ⟨riseV_up _ _ h.1, fun y hy => by
    rcases (riseV_mem z x y).1 hy with e | hy
    · rw [e]; exact hx
    · exact h.2 y hy⟩

set_option maxRecDepth 20000 in
set_option maxHeartbeats 8000000 in
theorem l6_reach (q : Nat) (g : Int) (P : Plc) (w : World) (h : PolAt w q P) (hp : pfV P = 0) :
    Calls Tryz.prog 19 #[.pointer (some ⟨q, 0, none⟩), .int .i64 g] w fun e w' => ∃ v, e = .returned v ∧ Nums w' w.heap.size v (rch P g) ∧ Below w.heap.size w w' := by
  have HA : Hid (PolAt w q P) := h
  have LN : Hid (P.lanes.length ≤ 100 ∧ P.bells.length ≤ 100) := ⟨by have := (pf_parts P hp).2.2.2.2.1; omega, by have := (pf_parts P hp).2.2.2.2.2.1; omega⟩
  have LK : Hid (∀ x, Up (lkV P x) ∧ In3 (lkV P x)) := fun x => ⟨lk_up P x, lk_in3 P hp x⟩
  have RI : Hid (rch P g = iterN P 3 (lkV P g)) := rfl
  clear h hp
  go_enter Tryz.func19, Tryz.ntmps19
  go_wp2_with fail
  refine (l6_links _ _ P _ HA.out LN.out.1 LN.out.2).mono ?_
  rintro e w1 ⟨v1, rfl, n1, b1⟩
  have N1 : Hid (Nums w1 w.heap.size v1 (lkV P g)) := n1
  have B1 : Hid (Below w.heap.size w w1) := b1
  clear n1 b1
  go_wp2_with fail
  go_loopw [5, 6, 7, 8, 9, 10] (fun v c _ _ _ _ wr => ∃ (j : Nat) (z : List Int), j ≤ 3 ∧ c = .int .i64 j ∧ Nums wr w.heap.size v z ∧ Below w.heap.size w wr ∧ Hid (rch P g = iterN P (3 - j) z) ∧ Hid (Up z ∧ In3 z)) (fun _ c _ _ _ _ _ => 3 - (intOf c).toNat)
  case atStart => exact ⟨0, _, Nat.zero_le _, rfl, N1.out, B1.out, RI, LK.out g⟩
  case round =>
    clear N1 B1
    obtain ⟨wo, rfl⟩ : ∃ wo, wo = wr := ⟨_, rfl⟩
    obtain ⟨j, z, hj, rfl, hN, hB, hR, hU⟩ := hrel
    have HN : Hid (Nums wo _ _ z) := hN
    have HB : Hid (Below _ w wo) := hB
    obtain ⟨ya, yc, hv, _, _, hsome⟩ := hN.shape
    have HZ3 : Hid (z.length ≤ 3) := up3 z hU.out.1 hU.out.2
    obtain ⟨zl, hzl⟩ : ∃ zl, z.length = zl := ⟨_, rfl⟩
    rw [hzl] at hv hsome
    have HZL : Hid (z.length = zl) := hzl
    have hzI : (zl : Int) ≤ 3 := by have := HZ3.out; omega
    subst hv
    clear hzl
    by_cases hlt : j < 3
    · have hJ : (j : Int) < 3 := by omega
      have HLT : Hid (j < 3) := hlt
      have R2 : Hid (rch P g = iterN P (3 - (j + 1)) (nextV P z)) := by show _ = _; rw [hR.out, show 3 - j = (3 - (j + 1)) + 1 by omega]; rfl
      clear hN hB hlt
      go_wp2_with fail
      go_loopw [7, 8, 9, 10] (fun v c _ _ wq => ∃ (i : Nat) (y : List Int), i ≤ zl ∧ c = .int .i64 i ∧ Nums wq w.heap.size v y ∧ Below wo.heap.size wo wq ∧ Hid (nextV P z = nextF P y (z.drop i)) ∧ Hid (Up y ∧ In3 y)) (fun _ c _ _ _ => zl - (intOf c).toNat)
      case atStart => exact ⟨0, z, Nat.zero_le _, rfl, HN.out, Below.refl _ _, rfl, hU⟩
      case round =>
        obtain ⟨wi, rfl⟩ : ∃ wi, wi = wr := ⟨_, rfl⟩
        obtain ⟨i, y, hi, rfl, hN2, hB2, hR2, hU2⟩ := hrel
        have HN2 : Hid (Nums _ _ _ y) := hN2
        have HB2 : Hid (Below _ _ _) := hB2
        obtain ⟨ya2, yc2, hv2, _, _, _⟩ := hN2.shape
        obtain ⟨yl, hyl⟩ : ∃ yl, y.length = yl := ⟨_, rfl⟩
        rw [hyl] at hv2
        subst hv2
        clear hyl
        by_cases hil : i < zl
        · obtain ⟨gz, rfl⟩ := hsome (by omega)
          have cz := cell_keep hB2 (HN.out.cell HZL.out.symm i hil)
          have hI : (i : Int) < (zl : Int) := by omega
          have HIL : Hid (i < zl) := hil
          have ST : Hid (_ = _) := nextF_step P y z i (by have := HZL.out; omega)
          obtain ⟨x, hx⟩ : ∃ x, z.getD i 0 = x := ⟨_, rfl⟩
          rw [hx] at cz ST
          have CL := l6_links q x P _ (HA.out.stay (on HB.out hB2)) LN.out.1 LN.out.2
          clear hx hN2 hB2 hil
          go_wp2_with fail
          refine CL.mono ?_
          rintro e w4 ⟨v4, rfl, n4, b4⟩
          obtain ⟨ma, mc, hv4, _, _, msome⟩ := n4.shape
          obtain ⟨ml, hml⟩ : ∃ ml, (lkV P x).length = ml := ⟨_, rfl⟩
          rw [hml] at hv4 msome
          have HML : Hid ((lkV P x).length = ml) := hml
          have hmI : (ml : Int) ≤ 3 := by have := up3 _ (LK.out x).1 (LK.out x).2; omega
          subst hv4
          have N4 : Hid (Nums w4 _ (.slice ma ml mc) (lkV P x)) := n4
          have NY : Hid (Nums w4 w.heap.size _ y) := HN2.out.keep b4
          have B4 : Hid (Below wo.heap.size wo w4) := on HB2.out b4
          clear n4 b4 CL hml cz
          go_wp2_with fail
          go_loopw [7, 10] (fun v c wp => ∃ (k : Nat) (u : List Int), k ≤ ml ∧ c = .int .i64 k ∧ Nums wp w.heap.size v u ∧ Below w4.heap.size w4 wp ∧ Hid (addAll y (lkV P x) = addAll u ((lkV P x).drop k)) ∧ Hid (Up u ∧ In3 u)) (fun _ c _ => ml - (intOf c).toNat)
          case atStart => exact ⟨0, y, Nat.zero_le _, rfl, NY.out, Below.refl _ _, rfl, hU2⟩
          case round =>
            obtain ⟨k, u, hk, rfl, hN3, hB3, hR3, hU3⟩ := hrel
            have HN3 : Hid (Nums _ _ _ u) := hN3
            have HB3 : Hid (Below _ _ _) := hB3
            obtain ⟨ya3, yc3, hv3, _, _, _⟩ := hN3.shape
            obtain ⟨ul, hul⟩ : ∃ ul, u.length = ul := ⟨_, rfl⟩
            rw [hul] at hv3
            subst hv3
            clear hul
            by_cases hkl : k < ml
            · obtain ⟨gm, rfl⟩ := msome (by omega)
              have cm := cell_keep hB3 (N4.out.cell HML.out.symm k hkl)
              have hK : (k : Int) < (ml : Int) := by omega
              have HKL : Hid (k < ml) := hkl
              have ST3 : Hid (_ = _) := addAll_step u (lkV P x) k (by have := HML.out; omega)
              have XR := (LK.out x).2 _ (getD_mem (lkV P x) 0 k (by have := HML.out; omega))
              obtain ⟨t, ht⟩ : ∃ t, (lkV P x).getD k 0 = t := ⟨_, rfl⟩
              rw [ht] at cm ST3 XR
              have HXR : Hid (0 ≤ t ∧ t < 3) := XR
              have RA := rise_any _ u t w.heap.size _ hN3 (by have := up3 u hU3.out.1 hU3.out.2; omega) (on HB.out (on B4.out hB3)).size
              clear ht hN3 hB3 hkl XR
              go_wp2_with fail
              refine RA.mono ?_
              rintro e w6 ⟨v6, rfl, n6, b6⟩
              have N6 : Hid (Nums w6 _ v6 (riseV u t)) := n6
              have B6 : Hid (Below w4.heap.size w4 w6) := on HB3.out b6
              clear n6 b6 RA cm
              go_wp2_with fail
              go_roundw
              case rel => exact ⟨k + 1, _, by have := HKL.out; omega, by go_num, N6.out, B6.out, by show _ = _; rw [hR3.out, ST3.out], rise_ok u t hU3.out HXR.out⟩
              case measure => have := HKL.out; simp [intOf]; omega
            · have hK : ¬ (k : Int) < (ml : Int) := by omega
              have EU : Hid (addAll y (lkV P x) = u) := by show _ = _; rw [hR3.out, List.drop_of_length_le (by have := HML.out; omega)]; rfl
              clear hN3 hB3 hkl
              go_wp2_with fail
              go_roundw
              case rel => exact ⟨i + 1, u, by have := HIL.out; omega, by go_num, HN3.out, on B4.out HB3.out, by show _ = _; rw [hR2.out, ST.out, EU.out], hU3⟩
              case measure => have := HIL.out; simp [intOf]; omega
        · have hI : ¬ (i : Int) < (zl : Int) := by omega
          have EY : Hid (nextV P z = y) := by show _ = _; rw [hR2.out, List.drop_of_length_le (by have := HZL.out; omega)]; rfl
          clear hN2 hB2 hil
          go_wp2_with fail
          go_roundw
          case rel => exact ⟨j + 1, y, by have := HLT.out; omega, by go_num, HN2.out, on HB.out HB2.out, by show _ = _; rw [R2.out, EY.out], hU2⟩
          case measure => have := HLT.out; simp [intOf]; omega
    · have hJ : ¬ (j : Int) < 3 := by omega
      have EZ : Hid (rch P g = z) := by show _ = _; rw [hR.out, show 3 - j = 0 by omega]; rfl
      clear hN hB hlt
      go_wp2_with fail
      go_ret
      rw [EZ.out]
      exact ⟨_, rfl, HN.out, HB.out⟩

set_option maxRecDepth 20000 in
set_option maxHeartbeats 4000000 in
theorem s_reach (a0 a1 a2 a3 : Option Addr) (n0 c0 n1 c1 n2 c2 n3 c3 : Nat) (P : Plc) (gu : Int) (w : World) (h : Pl w a0 n0 c0 a1 n1 c1 a2 n2 c2 a3 n3 c3 P) :
    Calls Tryz.prog 7 #[.agg #[.slice a0 n0 c0, .slice a1 n1 c1, .slice a2 n2 c2, .slice a3 n3 c3], .int .i64 gu] w fun e w' => ∃ v, e = .returned (.agg #[.int .i64 (askV P gu), v]) ∧ Nums w' w.heap.size v (reachZ P gu) ∧ Below w.heap.size w w' := by
  generalize hW : ((w.alloc (.cells #[.slice a0 n0 c0, .slice a1 n1 c1, .slice a2 n2 c2, .slice a3 n3 c3] 29))).alloc (.cells #[.int .i64 0, .slice none 0 0] 34) = W
  have B0 : Hid (Below w.heap.size w W) := by show Below _ _ _; rw [← hW]; exact al (al (Below.refl _ _) _) _
  obtain ⟨s, hS⟩ : ∃ s, w.heap.size = s := ⟨_, rfl⟩
  have HSs : Hid (w.heap.size = s) := hS
  have Q : Hid (W.cell? ⟨s, 0, none⟩ = some (.slice a0 n0 c0) ∧ W.cell? ⟨s, 1, none⟩ = some (.slice a1 n1 c1) ∧ W.cell? ⟨s, 2, none⟩ = some (.slice a2 n2 c2) ∧ W.cell? ⟨s, 3, none⟩ = some (.slice a3 n3 c3)) := by
    show _ ∧ _
    rw [← hW, ← hS]
    exact ⟨cell_push _ (cell_new rfl), cell_push _ (cell_new rfl), cell_push _ (cell_new rfl), cell_push _ (cell_new rfl)⟩
  have R : Hid (RsI W s) := by
    have z1 : s + 1 = ((w.alloc (.cells #[.slice a0 n0 c0, .slice a1 n1 c1, .slice a2 n2 c2, .slice a3 n3 c3] 29))).heap.size := by rw [← hS]; simp
    show RsI W s
    unfold RsI
    rw [← hW, z1]
    exact ⟨cell_new rfl, cell_new rfl, fz_new _ _ _ _, fz_new _ _ _ _, by simp⟩
  have HP : Hid (Pl W a0 n0 c0 a1 n1 c1 a2 n2 c2 a3 n3 c3 P) := h.stay B0.out
  have HA : Hid (PolAt W s P) := ⟨_, _, _, _, _, _, _, _, _, _, _, _, Q.out.1, Q.out.2.1, Q.out.2.2.1, Q.out.2.2.2, HP.out⟩
  clear h
  have q0 := Q.out.1
  have q1 := Q.out.2.1
  have q2 := Q.out.2.2.1
  have q3 := Q.out.2.2.2
  go_enter Tryz.func7, Tryz.ntmps7
  go_wp2_with fail
  clear hW hS
  refine (l6_asked _ _ P _ HA.out).mono ?_
  rintro e w1 ⟨rfl, b1⟩
  by_cases hz : askV P gu = 0
  · have ZV : Hid ((reachZ P gu) = (rch P gu)) := by show _ = _; rw [reachZ, if_pos hz]
    have AZ : Hid (askV P gu = 0) := hz
    have GU : Hid (0 ≤ gu ∧ gu < P.own.length) := ask_guest P gu hz
    have PZ : Hid (pfV P = 0) := ask_pf P gu hz
    rw [hz]
    have B1 : Hid (Below w.heap.size w w1) := on B0.out b1
    have HPw : Hid (Pl w1 a0 n0 c0 a1 n1 c1 a2 n2 c2 a3 n3 c3 P) := HP.out.stay b1
    have HAw : Hid (PolAt w1 s P) := HA.out.stay b1
    have R1 : Hid (RsI w1 s) := R.out.keep b1
    have q0 := cell_keep b1 Q.out.1
    have q1 := cell_keep b1 Q.out.2.1
    have q2 := cell_keep b1 Q.out.2.2.1
    have q3 := cell_keep b1 Q.out.2.2.2
    clear b1 hz
    go_wp2_with fail
    refine (l6_reach _ _ P _ HAw.out PZ.out).mono ?_
    rintro e w2 ⟨v, rfl, n2', b2⟩
    obtain ⟨ya, yc, hv, _, _, _⟩ := n2'.shape
    have NN : Hid (Nums w2 w.heap.size v (rch P gu)) := n2'.mono B1.out.size
    have NL : Hid (∀ k, v.ownBlock = some k → w1.heap.size ≤ k) := fun k e => (n2'.lt k e).1
    have B2 : Hid (Below w.heap.size w w2) := on B1.out b2
    obtain ⟨r0, r1, f0, f1, lt⟩ := R1.out.keep b2
    have LT : Hid (s + 1 < w1.heap.size) := R1.out.2.2.2.2
    generalize ((rch P gu)).length = ln at hv
    subst hv
    clear b2 n2'
    go_wp2_with fail
    refine bodyPost_ret (v := .agg #[.int .i64 0, .slice ya ln yc]) (by simp [results, Tryz.results7, go_sem, r0, r1]) rfl ⟨.slice ya ln yc, by rw [AZ.out], ?_, (B2.out.setCell (by have := HSs.out; show w.heap.size ≤ s + 1; omega) _).setCell (by have := HSs.out; show w.heap.size ≤ s + 1; omega) _⟩
    have ne : (Value.slice ya ln yc).ownBlock ≠ some (s + 1) := fun e => by have := NL.out _ e; have := LT.out; omega
    rw [ZV.out]
    exact (NN.out.put ⟨s + 1, 0, none⟩ (.int .i64 0) ne).put ⟨s + 1, 1, none⟩ (.slice ya ln yc) ne
  · have ZV : Hid ((reachZ P gu) = []) := by show _ = _; rw [reachZ, if_neg hz]
    obtain ⟨r0, r1, f0, f1, lt⟩ := R.out.keep b1
    have B1 : Hid (Below w.heap.size w w1) := on B0.out b1
    generalize hv : askV P gu = v at *
    have HV : Hid (askV P gu = v) := hv
    clear b1
    go_wp2_with fail
    exact bodyPost_ret (v := .agg #[.int .i64 v, .slice none 0 0]) (by simp [results, Tryz.results7, go_sem, r0, r1]) rfl ⟨.slice none 0 0, by rw [HV.out], by rw [ZV.out]; exact Nums.nil _ _, (B1.out.setCell (by have := HSs.out; show w.heap.size ≤ s + 1; omega) _).setCell (by have := HSs.out; show w.heap.size ≤ s + 1; omega) _⟩
end Go.Proofs.YtddeaibkdpomlaaGreatDoor
namespace Go.Proofs.YtddeaibkdpomlaaGreatDoor
open Go.RowKit
set_option linter.unusedVariables false

theorem wp_appn_at {ops : Array Oper} {rest : List Oper} {o : Oper} {act : Act} {Q : Exit → Act → World → Prop} (w : World) (hgd : o.guard = none) (s x : Operand)
    (ho : o.op = .call { callee := .builtin .append, args := #[s, x], argTypes := #[32, 32] }) (base : Nat) (v : Value) (zs : List Int) (hs : act.eval s = v) (hN : Nums w base v zs)
    (B m c : Nat) (ys : List Int) (hx : act.eval x = .slice (some ⟨B, 0, none⟩) m c) (hy : ys.length = m) (hc : ∀ i, i < m → w.cell? ⟨B, i, none⟩ = some (.int .i64 (ys.getD i 0)))
    (hlen : zs.length + m ≤ 1000000000) (hbase : base ≤ w.heap.size)
    (h : ∀ v' w', Nums w' base v' (zs ++ ys) → w.grownBy w' v.ownBlock → (v'.ownBlock = v.ownBlock ∨ v'.ownBlock = some w.heap.size) → wpList Tryz.prog ops Q rest (act.put o.dst v') w') : wpList Tryz.prog ops Q (o :: rest) act w := by
  obtain ⟨i, hi, hz0, hz1, hz2⟩ := info_parts info_i64
  refine wpList_append_own_at w hgd s x 32 ho base 2 i _ 1 8 Tryz.underlying32 hi hz0 hz1 hz2 rfl (by decide) v zs.length _ hs hN ⟨B, 0, none⟩ m c (ys.map (Value.int .i64)) hx (by simpa using hy) ?_ ?_ (by unfold maxLen; omega) (by omega) hbase ?_
  · intro j u hj
    have hjl : j < ys.length := by have := (List.getElem?_eq_some_iff.1 hj).1; simpa using this
    rw [List.getElem?_map, List.getElem?_eq_getElem hjl] at hj
    have := hc j (by omega)
    rw [List.getD, List.getElem?_eq_getElem hjl] at this
    rw [show (⟨B, 0, none⟩ : Addr).add j = ⟨B, j, none⟩ by rw [Addr.add_lit]; simp, this]
    exact hj
  · intro u hu
    obtain ⟨z, _, rfl⟩ := List.mem_map.1 hu
    rfl
  · intro v' w' hown hgrow _ hat
    refine h v' w' ?_ hgrow hat
    unfold Nums
    rw [List.length_append, hy, List.map_append]
    exact hown

/-- What is known of the list while it is gone through. -/
structure Rk (P : Plc) (g : Int) (r : List Int) (j : Nat) : Prop where
  nd : r.Nodup
  in3 : In3 r
  first : ∀ x ∈ lkV P g, x ∈ r
  done : ∀ y ∈ r.take j, ∀ x ∈ lkV P y, x ∈ r
  least : ∀ x ∈ r, x ∈ rch P g
theorem Rk.start (P : Plc) (g : Int) (hp : pfV P = 0) : Rk P g (lkV P g) 0 :=
  ⟨up_nodup _ (lk_up P g), lk_in3 P hp g, fun _ h => h, fun y hy => by simp at hy, rch_first P g⟩
theorem Rk.push {P : Plc} {g : Int} {r : List Int} {j : Nat} (h : Rk P g r j) (hp : pfV P = 0) (hj : j ≤ r.length) (x t : Int) (hx : x ∈ r) (ht : t ∈ lkV P x) (hn : t ∉ r) : Rk P g (r ++ [t]) j := by
  refine ⟨?_, fun y hy => ?_, fun y hy => List.mem_append_left _ (h.first y hy), fun y hy z hz => ?_, fun y hy => ?_⟩
  · rw [List.nodup_append]
    refine ⟨h.nd, by simp, fun a ha b hb e => ?_⟩
    rw [List.mem_singleton] at hb
    subst hb
    subst e
    exact hn ha
  · rcases List.mem_append.1 hy with hy | hy
    · exact h.in3 y hy
    · rw [List.mem_singleton] at hy
      rw [hy]
      exact lk_in3 P hp x t ht
  · rw [List.take_append_of_le_length hj] at hy
    exact List.mem_append_left _ (h.done y hy z hz)
  · rcases List.mem_append.1 hy with hy | hy
    · exact h.least y hy
    · rw [List.mem_singleton] at hy
      rw [hy]
      exact rch_closed P hp g x (h.least x hx) t ht
theorem Rk.next {P : Plc} {g : Int} {r : List Int} {j : Nat} (h : Rk P g r j) (hj : j < r.length) (ha : ∀ t ∈ lkV P (r.getD j 0), t ∈ r) : Rk P g r (j + 1) := by
  refine ⟨h.nd, h.in3, h.first, fun y hy z hz => ?_, h.least⟩
  rw [take_succ_getD r 0 j hj, List.mem_append, List.mem_singleton] at hy
  rcases hy with hy | hy
  · exact h.done y hy z hz
  · rw [hy] at hz
    exact ha z hz
theorem getD_app (r e : List Int) (j : Nat) (h : j < r.length) : (r ++ e).getD j 0 = r.getD j 0 := by
  rw [List.getD, List.getD, List.getElem?_append_left h]
theorem lk_take (zs : List Int) (t : Int) (k : Nat) (r : List Int) (h : k < zs.length) (he : zs.getD k 0 = t) (ht : t ∈ r) (ha : ∀ y ∈ zs.take k, y ∈ r) : ∀ y ∈ zs.take (k + 1), y ∈ r := by
  intro y hy
  rw [take_succ_getD zs 0 k h, List.mem_append, List.mem_singleton] at hy
  rcases hy with hy | hy
  · exact ha y hy
  · rw [hy, he]; exact ht

set_option maxRecDepth 20000 in
set_option maxHeartbeats 8000000 in
theorem i_reach (a0 a1 a2 a3 : Option Addr) (n0 c0 n1 c1 n2 c2 n3 c3 : Nat) (P : Plc) (gu : Int) (w : World) (h : Pl w a0 n0 c0 a1 n1 c1 a2 n2 c2 a3 n3 c3 P) (hg : w.cell? ⟨0, 0, none⟩ = some (.iface 129 (.agg #[.pointer (some ⟨1, 65, none⟩)]))) :
    Calls Tryz.prog 6 #[.agg #[.slice a0 n0 c0, .slice a1 n1 c1, .slice a2 n2 c2, .slice a3 n3 c3], .int .i64 gu] w fun e w' => ∃ v, e = .returned (.agg #[.int .i64 (askV P gu), v]) ∧ Nums w' w.heap.size v (reachZ P gu) ∧ Below w.heap.size w w' := by
  generalize hW : ((w.alloc (.cells #[.slice a0 n0 c0, .slice a1 n1 c1, .slice a2 n2 c2, .slice a3 n3 c3] 29))).alloc (.cells #[.int .i64 0, .slice none 0 0] 34) = W
  have B0 : Hid (Below w.heap.size w W) := by show Below _ _ _; rw [← hW]; exact al (al (Below.refl _ _) _) _
  obtain ⟨s, hS⟩ : ∃ s, w.heap.size = s := ⟨_, rfl⟩
  have HSs : Hid (w.heap.size = s) := hS
  have Q : Hid (W.cell? ⟨s, 0, none⟩ = some (.slice a0 n0 c0) ∧ W.cell? ⟨s, 1, none⟩ = some (.slice a1 n1 c1) ∧ W.cell? ⟨s, 2, none⟩ = some (.slice a2 n2 c2) ∧ W.cell? ⟨s, 3, none⟩ = some (.slice a3 n3 c3)) := by
    show _ ∧ _
    rw [← hW, ← hS]
    exact ⟨cell_push _ (cell_new rfl), cell_push _ (cell_new rfl), cell_push _ (cell_new rfl), cell_push _ (cell_new rfl)⟩
  have R : Hid (RsI W s) := by
    have z1 : s + 1 = ((w.alloc (.cells #[.slice a0 n0 c0, .slice a1 n1 c1, .slice a2 n2 c2, .slice a3 n3 c3] 29))).heap.size := by rw [← hS]; simp
    show RsI W s
    unfold RsI
    rw [← hW, z1]
    exact ⟨cell_new rfl, cell_new rfl, fz_new _ _ _ _, fz_new _ _ _ _, by simp⟩
  have HP : Hid (Pl W a0 n0 c0 a1 n1 c1 a2 n2 c2 a3 n3 c3 P) := h.stay B0.out
  have HA : Hid (PolAt W s P) := ⟨_, _, _, _, _, _, _, _, _, _, _, _, Q.out.1, Q.out.2.1, Q.out.2.2.1, Q.out.2.2.2, HP.out⟩
  have HG : Hid (_ = _) := cell_keep B0.out hg
  clear h hg
  have q0 := Q.out.1
  have q1 := Q.out.2.1
  have q2 := Q.out.2.2.1
  have q3 := Q.out.2.2.2
  go_enter Tryz.func6, Tryz.ntmps6
  go_wp2_with fail
  clear hW hS
  refine (i_asked _ _ _ _ _ _ _ _ _ _ _ _ P _ _ HP.out HG.out).mono ?_
  rintro e w1 ⟨rfl, b1⟩
  by_cases hz : askV P gu = 0
  case neg =>
    have ZV : Hid (reachZ P gu = []) := by show _ = _; rw [reachZ, if_neg hz]
    obtain ⟨r0, r1, f0, f1, lt⟩ := R.out.keep b1
    have B1 : Hid (Below w.heap.size w w1) := on B0.out b1
    generalize hv : askV P gu = v at *
    have HV : Hid (askV P gu = v) := hv
    clear b1
    go_wp2_with fail
    exact bodyPost_ret (v := .agg #[.int .i64 v, .slice none 0 0]) (by simp [results, Tryz.results6, go_sem, r0, r1]) rfl ⟨.slice none 0 0, by rw [HV.out], by rw [ZV.out]; exact Nums.nil _ _, (B1.out.setCell (by have := HSs.out; show w.heap.size ≤ s + 1; omega) _).setCell (by have := HSs.out; show w.heap.size ≤ s + 1; omega) _⟩
  have ZV : Hid (reachZ P gu = rch P gu) := by show _ = _; rw [reachZ, if_pos hz]
  have AZ : Hid (askV P gu = 0) := hz
  have PZ : Hid (pfV P = 0) := ask_pf P gu hz
  rw [hz]
  have B1 : Hid (Below w.heap.size w w1) := on B0.out b1
  have HPw : Hid (Pl w1 a0 n0 c0 a1 n1 c1 a2 n2 c2 a3 n3 c3 P) := HP.out.stay b1
  have R1 : Hid (RsI w1 s) := R.out.keep b1
  have Q1 : Hid (w1.cell? ⟨s, 0, none⟩ = some (.slice a0 n0 c0) ∧ w1.cell? ⟨s, 1, none⟩ = some (.slice a1 n1 c1) ∧ w1.cell? ⟨s, 2, none⟩ = some (.slice a2 n2 c2) ∧ w1.cell? ⟨s, 3, none⟩ = some (.slice a3 n3 c3)) := ⟨cell_keep b1 Q.out.1, cell_keep b1 Q.out.2.1, cell_keep b1 Q.out.2.2.1, cell_keep b1 Q.out.2.2.2⟩
  have HN3 : Hid (n0 ≤ 1000) := by have := HPw.out.own.len; have := (pf_parts P PZ.out).1; show _ ≤ _; omega
  have LE : Hid (∀ x, linkUp P x P.own.length = lkV P x) := fun x => (link_eq P x PZ.out).symm
  have q0 := Q1.out.1
  have q1 := Q1.out.2.1
  have q2 := Q1.out.2.2.1
  have q3 := Q1.out.2.2.2
  clear b1 hz
  go_wp2_with fail
  refine (i_links0 _ _ _ _ _ _ _ _ _ _ _ _ P _ _ HPw.out HN3.out).mono ?_
  rintro e w2 ⟨v2, rfl, n2', b2⟩
  rw [LE.out] at n2'
  have N2 : Hid (Nums w2 w1.heap.size v2 (lkV P gu)) := n2'
  have B2 : Hid (Below w1.heap.size w1 w2) := b2
  clear n2' b2 q0 q1 q2 q3
  go_wp2_with fail
  go_loopw [6, 7, 9] (fun v c _ wr => ∃ (j : Nat) (r : List Int), c = .int .i64 j ∧ j ≤ r.length ∧ Nums wr w1.heap.size v r ∧ Below w1.heap.size w1 wr ∧ Hid (Rk P gu r j)) (fun _ c _ _ => 3 - (intOf c).toNat)
  case atStart => exact ⟨0, _, rfl, Nat.zero_le _, N2.out, B2.out, Rk.start P gu PZ.out⟩
  case round =>
    clear N2 B2
    obtain ⟨wo, rfl⟩ : ∃ wo, wo = wr := ⟨_, rfl⟩
    obtain ⟨j, r, rfl, hj, hN, hB, hR⟩ := hrel
    have HN : Hid (Nums wo _ _ r) := hN
    have HB : Hid (Below _ w1 wo) := hB
    have HR3 : Hid (r.length ≤ 3) := nodup3 r hR.out.nd hR.out.in3
    obtain ⟨ya, yc, hv, _, _, hsome⟩ := hN.shape
    obtain ⟨rl, hrl⟩ : ∃ rl, r.length = rl := ⟨_, rfl⟩
    rw [hrl] at hv hsome hj
    have HRL : Hid (r.length = rl) := hrl
    have hrI : (rl : Int) ≤ 3 := by have := HR3.out; omega
    subst hv
    clear hrl
    by_cases hlt : j < rl
    · obtain ⟨gr, rfl⟩ := hsome (by omega)
      have cr := hN.cell HRL.out.symm j hlt
      have hJ : (j : Int) < (rl : Int) := by omega
      have HLT : Hid (j < rl) := hlt
      have q0 := cell_keep hB Q1.out.1
      have q1 := cell_keep hB Q1.out.2.1
      have q2 := cell_keep hB Q1.out.2.2.1
      have q3 := cell_keep hB Q1.out.2.2.2
      obtain ⟨x, hx⟩ : ∃ x, r.getD j 0 = x := ⟨_, rfl⟩
      have HX : Hid (r.getD j 0 = x) := hx
      rw [hx] at cr
      clear hx hN hB hlt hsome
      go_wp2_with fail
      go_cut [31, 32, 33] from 20 to 45 (fun m l c wx => ∃ (ma : Option Addr) (ml mc : Nat), m = .slice ma ml mc ∧ l = .int .i64 ml ∧ c = .int .i64 0 ∧ Nums wx wo.heap.size (.slice ma ml mc) (lkV P x) ∧ Below wo.heap.size wo wx)
      case first =>
        go_region_with (go_at_call 15; refine (i_links0 _ _ _ _ _ _ _ _ _ _ _ _ P x _ (HPw.out.stay (by first | exact HB.out | exact HB.out.drew | exact HB.out.drew.drew)) HN3.out).mono ?_; rintro e w3 ⟨v3, rfl, n3', b3⟩; rw [LE.out] at n3'; obtain ⟨ma, mc, hm, _, _, _⟩ := n3'.shape; have hml : ((lkV P x).length : Int) ≤ 3 := (by have := up3 _ (lk_up P x) (lk_in3 P PZ.out x); omega); have N3 : Hid (Nums w3 wo.heap.size v3 (lkV P x)) := n3'; have B3 : Hid (Below wo.heap.size wo w3) := (by first | exact b3 | exact on (Below.refl _ _).drew b3 | exact on (Below.refl _ _).drew.drew b3); obtain ⟨ml, hmm⟩ : ∃ ml, (lkV P x).length = ml := ⟨_, rfl⟩; rw [hmm] at hm hml; subst hm; clear n3' b3 hmm)
        all_goals (go_wp2_with fail; go_meet; exact ⟨_, _, _, rfl, rfl, rfl, N3.out, by first | exact B3.out | exact B3.out.drew⟩)
      case rest =>
      obtain ⟨ma, ml, mc, rfl, rfl, rfl, n3', b3⟩ := hcut
      have N3 : Hid (Nums wc wo.heap.size (.slice ma ml mc) (lkV P x)) := n3'
      have B3 : Hid (Below wo.heap.size wo wc) := b3
      have HML : Hid (ml = (lkV P x).length) := n3'.len
      obtain ⟨ma', mc', hmv, _, _, msome⟩ := n3'.shape
      rw [← HML.out] at hmv msome
      cases hmv
      have hmI : (ml : Int) ≤ 3 := by have := up3 _ (lk_up P x) (lk_in3 P PZ.out x); have := HML.out; omega
      have NR : Hid (Nums wc w1.heap.size (.slice (some ⟨gr, 0, none⟩) rl yc) r) := HN.out.keep b3
      clear n3' b3 cr q0 q1 q2 q3
      go_wp2_with fail
      go_loopw [6, 9, 33] (fun v _ c wq => ∃ (k : Nat) (e : List Int), k ≤ ml ∧ c = .int .i64 k ∧ Nums wq w1.heap.size v (r ++ e) ∧ Nums wq wo.heap.size (.slice ma ml mc) (lkV P x) ∧ (∀ bk, (Value.slice ma ml mc).ownBlock = some bk → v.ownBlock ≠ some bk) ∧ Below w1.heap.size w1 wq ∧ Hid (Rk P gu (r ++ e) j ∧ ∀ t ∈ (lkV P x).take k, t ∈ r ++ e)) (fun _ _ c _ => ml - (intOf c).toNat)
      case atStart => exact ⟨0, [], Nat.zero_le _, rfl, by rw [List.append_nil]; exact NR.out, N3.out, fun bk hb e2 => by have := (N3.out.lt bk hb).1; have := (HN.out.lt bk e2).2; omega, on HB.out B3.out, by rw [List.append_nil]; exact ⟨hR.out, fun t ht => by simp at ht⟩⟩
      case round =>
        clear NR N3
        obtain ⟨k, e, hk, rfl, hN4, hM4, hne, hB4, hR4⟩ := hrel
        have HN4 : Hid (Nums wr _ _ (r ++ e)) := hN4
        have HM4 : Hid (Nums wr _ _ (lkV P x)) := hM4
        have HB4 : Hid (Below _ w1 wr) := hB4
        have HNE : Hid (∀ bk, (Value.slice ma ml mc).ownBlock = some bk → _ ≠ some bk) := hne
        have H43 : Hid ((r ++ e).length ≤ 3) := nodup3 _ hR4.out.1.nd hR4.out.1.in3
        obtain ⟨ya4, yc4, hv4, _, _, _⟩ := hN4.shape
        obtain ⟨el, hel⟩ : ∃ el, (r ++ e).length = el := ⟨_, rfl⟩
        rw [hel] at hv4
        subst hv4
        have IS : Hid (IsNs wr ya4 el yc4 (r ++ e)) := hN4.read
        have SZ : Hid (w1.heap.size ≤ wr.heap.size) := hB4.size
        clear hel hne
        by_cases hkl : k < ml
        · obtain ⟨gm, rfl⟩ := msome (by omega)
          have cm := hM4.cell HML.out k hkl
          have hK : (k : Int) < (ml : Int) := by omega
          have HKL : Hid (k < ml ∧ k < (lkV P x).length) := ⟨hkl, by have := HML.out; omega⟩
          have HT0 : Hid ((lkV P x).getD k 0 ∈ lkV P x) := getD_mem (lkV P x) 0 k HKL.out.2
          obtain ⟨t, ht⟩ : ∃ t, (lkV P x).getD k 0 = t := ⟨_, rfl⟩
          have HT : Hid ((lkV P x).getD k 0 = t) := ht
          rw [ht] at cm
          have HTM : Hid (t ∈ lkV P x) := by rw [← ht]; exact HT0.out
          clear ht HT0 hN4 hM4 hB4 hkl
          by_cases hin : t ∈ r ++ e
          · have hd : decide (t ∈ r ++ e) = true := decide_eq_true hin
            have R5 : Hid (Rk P gu (r ++ e) j ∧ ∀ t ∈ (lkV P x).take (k + 1), t ∈ r ++ e) := ⟨hR4.out.1, lk_take _ t k _ HKL.out.2 HT.out hin hR4.out.2⟩
            clear hin
            go_wp2_with (go_at_call 16; refine (i_contains _ _ _ _ _ _ IS.out).mono ?_; rintro e5 wr ⟨rfl, rfl⟩; rw [hd])
            go_roundw
            case rel => exact ⟨k + 1, e, by have := HKL.out; omega, by go_num, HN4.out, HM4.out, HNE.out, HB4.out, R5⟩
            case measure => have := HKL.out; simp [intOf]; omega
          · have hd : decide (t ∈ r ++ e) = false := decide_eq_false hin
            have HXI : Hid (x ∈ r ++ e) := List.mem_append_left _ (by rw [← HX.out]; exact getD_mem r 0 j (by have := HRL.out; have := HLT.out; omega))
            have R5 : Hid (Rk P gu (r ++ (e ++ [t])) j ∧ ∀ u ∈ (lkV P x).take (k + 1), u ∈ r ++ (e ++ [t])) := by
              rw [← List.append_assoc]
              exact ⟨hR4.out.1.push PZ.out (by have := HRL.out; have := HLT.out; rw [List.length_append]; omega) x t HXI.out HTM.out hin, lk_take _ t k _ HKL.out.2 HT.out (by simp) (fun y hy => List.mem_append_left _ (hR4.out.2 y hy))⟩
            clear hin
            go_wp2_with (first | (go_at_call 16; refine (i_contains _ _ _ _ _ _ IS.out).mono ?_; rintro e5 wr ⟨rfl, rfl⟩; rw [hd]) | (at_builtin; refine wp_appn_at _ rfl _ _ rfl w1.heap.size _ _ rfl (HN4.out.keep (al (Below.refl _ _) _)) wr.heap.size 1 1 [t] rfl rfl (one_at (cell_new rfl)) (by have := H43.out; omega) (by have := SZ.out; simp; omega) ?_; intro v' w' hN' hG' hat))
            have N' : Hid (Nums w' w1.heap.size v' (r ++ (e ++ [t]))) := by rw [← List.append_assoc]; exact hN'
            have HWA := HM4.out.keep (al (Below.refl _ _) (.cells #[.int .i64 t] 2))
            have MBL : ∀ bk, (Value.slice (some ⟨gm, 0, none⟩) ml mc).ownBlock = some bk → bk < wr.heap.size := fun bk hb => (HM4.out.lt bk hb).2
            have M' : Hid (Nums w' wo.heap.size (.slice (some ⟨gm, 0, none⟩) ml mc) (lkV P x)) := HWA.kept hG' (.inr (fun e2 => HNE.out gm rfl e2.symm))
            have NE' : Hid (∀ bk, (Value.slice (some ⟨gm, 0, none⟩) ml mc).ownBlock = some bk → v'.ownBlock ≠ some bk) := fun bk hb e2 => by
              rcases hat with h | h
              · exact HNE.out bk hb (h.symm.trans e2)
              · have := MBL bk hb
                rw [h] at e2
                have e3 := Option.some.inj e2
                simp at e3
                omega
            have B' : Hid (Below w1.heap.size w1 w') := (al HB4.out _).grown hG' (by have := SZ.out; simp; omega) (fun k hk => (HN4.out.lt k hk).1)
            clear hN' hG' hat HWA MBL
            go_wp2_with fail
            go_roundw
            case rel => exact ⟨k + 1, e ++ [t], by have := HKL.out; omega, by go_num, N'.out, M'.out, NE'.out, B'.out, R5⟩
            case measure => have := HKL.out; simp [intOf]; omega
        · have hK : ¬ (k : Int) < (ml : Int) := by omega
          have LJ : Hid (j < (r ++ e).length) := by rw [List.length_append]; have := HRL.out; have := HLT.out; show _ < _; omega
          have R6 : Hid (Rk P gu (r ++ e) (j + 1)) := hR4.out.1.next LJ.out (fun t ht => by
            rw [getD_app r e j (by have := HRL.out; have := HLT.out; omega), HX.out] at ht
            have := hR4.out.2 t
            rw [List.take_of_length_le (by have := HML.out; omega)] at this
            exact this ht)
          have J3 : Hid (j < 3) := by show _ < _; have := LJ.out; have := H43.out; omega
          clear hN4 hM4 hB4 hkl
          go_wp2_with fail
          go_roundw
          case rel => exact ⟨j + 1, r ++ e, by go_num, by have := LJ.out; omega, HN4.out, HB4.out, R6⟩
          case measure => have := J3.out; simp [intOf]; omega
    · have hJ : ¬ (j : Int) < (rl : Int) := by omega
      have ALL : Hid (∀ y ∈ r, ∀ x ∈ lkV P y, x ∈ r) := fun y hy x hx => hR.out.done y (by rw [List.take_of_length_le (by have := HRL.out; omega)]; exact hy) x hx
      have CS := sort_few (.slice ya rl yc) r w1.heap.size wo hN HR3.out hR.out.nd
      clear hN hB hlt hsome
      go_wp2_with fail
      refine CS.mono ?_
      rintro e w5 ⟨rfl, ys, h1, h2, h3, h4⟩
      have EY : ys = rch P gu := rch_eq P PZ.out gu r ys h2 h3 hR.out.first ALL.out hR.out.least
      subst EY
      have N5 : Hid (Nums w5 w1.heap.size (.slice ya rl yc) (rch P gu)) := h1
      have B5 : Hid (Below w1.heap.size w1 w5) := HB.out.grown h4 HB.out.size (fun k hk => (HN.out.lt k hk).1)
      obtain ⟨r0, r1, f0, f1, lt⟩ := R1.out.keep B5.out
      have LT : Hid (s + 1 < w1.heap.size) := R1.out.2.2.2.2
      clear CS h1 h2 h3 h4
      go_wp2_with fail
      refine bodyPost_ret (v := .agg #[.int .i64 0, .slice ya rl yc]) (by simp [results, Tryz.results6, go_sem, r0, r1]) rfl ⟨.slice ya rl yc, by rw [AZ.out], ?_, ((on B1.out B5.out).setCell (by have := HSs.out; show w.heap.size ≤ s + 1; omega) _).setCell (by have := HSs.out; show w.heap.size ≤ s + 1; omega) _⟩
      have ne : (Value.slice ya rl yc).ownBlock ≠ some (s + 1) := fun e => by have := (N5.out.lt _ e).1; have := LT.out; omega
      rw [ZV.out]
      exact ((N5.out.put ⟨s + 1, 0, none⟩ (.int .i64 0) ne).put ⟨s + 1, 1, none⟩ (.slice ya rl yc) ne).mono B1.out.size
end Go.Proofs.YtddeaibkdpomlaaGreatDoor
namespace Go.Proofs.YtddeaibkdpomlaaGreatDoor
open Go.RowKit
set_option linter.unusedVariables false

/-- The steps of the first n guests. -/
def sumF (plan : List (Int × Int)) : Nat → Int
  | 0 => 0
  | n + 1 => sumF plan n + frV (n : Int) plan
theorem sumF_cons (s : Int × Int) (t : List (Int × Int)) : ∀ n : Nat, sumF (s :: t) n = (if 0 ≤ s.1 ∧ s.1 < n then s.2 else 0) + sumF t n
  | 0 => by
    rw [sumF, sumF, if_neg (by omega)]
    omega
  | n + 1 => by
    rw [sumF, sumF, sumF_cons s t n, frV]
    by_cases h1 : 0 ≤ s.1 ∧ s.1 < n
    · rw [if_pos h1, if_neg (by omega), if_pos (by omega)]
      omega
    · by_cases h2 : s.1 = (n : Int)
      · rw [if_neg h1, if_pos h2, if_pos (by omega)]
        omega
      · rw [if_neg h1, if_neg h2, if_neg (by omega)]
        omega
theorem sumF_all (n : Nat) : ∀ plan : List (Int × Int), (∀ s ∈ plan, 0 ≤ s.1 ∧ s.1 < n) → sumF plan n = rdV plan
  | [], _ => by
    rw [rdV]
    induction n with
    | zero => rfl
    | succ n ih => rw [sumF, ih (fun s hs => by cases hs), frV]; rfl
  | s :: t, h => by
    rw [sumF_cons, rdV, if_pos (h s (List.mem_cons_self ..)), sumF_all n t (fun x hx => h x (List.mem_cons_of_mem _ hx))]
theorem slots_guest (n : Nat) (zs : List (Int × Int)) (h : slotsV n zs = 0) : ∀ s ∈ zs, 0 ≤ s.1 ∧ s.1 < n := by
  induction zs with
  | nil => intro s hs; cases hs
  | cons a t ih =>
    rw [slotsV] at h
    split at h
    · rename_i h1
      intro s hs
      rcases List.mem_cons.1 hs with rfl | hs
      · rw [slotV] at h1
        split at h1
        · cases h1
        · rename_i h2
          have : isG n s.1 = true := by simpa using h2
          simp [isG] at this
          omega
      · exact ih h s hs
    · rename_i h1
      exact absurd h h1
theorem pf_slots (P : Plc) (h : pfV P = 0) : 1 ≤ P.plan.length ∧ slotsV P.own.length P.plan = 0 := by
  have h3 := (or_zero (or_zero (or_zero h).2).2).2
  unfold g6V at h3
  split at h3
  · cases h3
  · rename_i k
    exact ⟨by omega, h3⟩
/-- All steps of a round belong to somebody, and there are some. -/
theorem round_all (P : Plc) (h : pfV P = 0) : sumF P.plan P.own.length = rdV P.plan ∧ 0 < rdV P.plan := by
  obtain ⟨h1, h2⟩ := pf_slots P h
  refine ⟨sumF_all _ _ (slots_guest _ _ h2), ?_⟩
  have hs := slots_ok _ _ h2
  cases hp : P.plan with
  | nil => rw [hp] at h1; simp at h1
  | cons s t =>
    rw [hp] at hs
    have hall : ∀ l : List (Int × Int), (∀ s ∈ l, 1 ≤ s.2 ∧ s.2 ≤ 50) → 0 ≤ rdV l := by
      intro l
      induction l with
      | nil => intro _; simp [rdV]
      | cons a r ih =>
        intro hl
        have := hl a (List.mem_cons_self ..)
        have := ih (fun x hx => hl x (List.mem_cons_of_mem _ hx))
        rw [rdV]
        omega
    have := hs s (List.mem_cons_self ..)
    have := hall t (fun x hx => hs x (List.mem_cons_of_mem _ hx))
    rw [rdV]
    omega
theorem dup_app (seen a b : List Int) : dupF seen (a ++ b) = (dupF seen a || dupF (seen ++ a) b) := by
  induction a generalizing seen with
  | nil => simp [dupF]
  | cons z t ih =>
    rw [List.cons_append, dupF, dupF]
    by_cases hz : z ∈ seen
    · rw [if_pos hz, if_pos hz]; rfl
    · rw [if_neg hz, if_neg hz, ih]
      simp
theorem dup_seen (seen a : List Int) (h : dupF seen a = false) : ∀ x ∈ a, x ∉ seen := by
  induction a generalizing seen with
  | nil => intro x hx; cases hx
  | cons z t ih =>
    rw [dupF] at h
    split at h
    · cases h
    · rename_i hz
      intro x hx
      rcases List.mem_cons.1 hx with rfl | hx
      · exact hz
      · exact fun k => ih _ h x hx (List.mem_append.2 (.inl k))
theorem owner_at (own : List (List Int)) : ∀ (seen : List Int) (i : Int) (g : Nat) (x : Int), dupF seen own.flatten = false → g < own.length → x ∈ own.getD g [] → ownerFrom i own x = i + g := by
  induction own with
  | nil => intro seen i g x _ hg; simp at hg
  | cons o t ih =>
    intro seen i g x hd hg hx
    rw [List.flatten_cons, dup_app] at hd
    simp only [Bool.or_eq_false_iff] at hd
    cases g with
    | zero =>
      have hx' : x ∈ o := by simpa using hx
      rw [ownerFrom, if_pos hx']
      omega
    | succ g =>
      have hx' : x ∈ t.getD g [] := by simpa using hx
      have hg' : g < t.length := by simpa using hg
      have hf : x ∈ t.flatten := by
        rw [List.getD, List.getElem?_eq_getElem hg'] at hx'
        exact List.mem_flatten.2 ⟨_, List.getElem_mem hg', by simpa using hx'⟩
      have hn : x ∉ o := fun k => dup_seen _ _ hd.2 x hf (List.mem_append.2 (.inr k))
      rw [ownerFrom, if_neg hn, ih _ (i + 1) g x hd.2 hg' hx']
      omega
/-- An owned page has its owner. -/
theorem pf_owner (P : Plc) (h : pfV P = 0) (g : Nat) (hg : g < P.own.length) (x : Int) (hx : x ∈ P.own.getD g []) : ownerFrom 0 P.own x = g := by
  have h2 := (or_zero (or_zero h).1).2
  unfold g2V at h2
  split at h2
  · cases h2
  · rename_i hd
    have := owner_at P.own [] 0 g x (by simpa using hd) hg hx
    omega
end Go.Proofs.YtddeaibkdpomlaaGreatDoor
namespace Go.Proofs.YtddeaibkdpomlaaGreatDoor
open Go.RowKit
set_option linter.unusedVariables false

set_option maxHeartbeats 1000000 in
theorem lw_has (a : Option Addr) (len cap : Nat) (x : Int) (zs : List Int) (w : World) (h : IsNs w a len cap zs) :
    Calls Tryz.prog 9 #[.slice a len cap, .int .i64 x] w fun e w' => e = .returned (.bool (decide (x ∈ zs))) ∧ w' = w := by
  have HR : Hid (IsNs w a len cap zs) := h
  have hmax : (len : Int) ≤ 9223372036854775807 := by have := h.cap; unfold maxLen at this; omega
  have HL : Hid (len = zs.length) := h.len
  clear h
  go_enter Tryz.func9, Tryz.ntmps9
  go_wp2_with fail
  go_loop [5] (fun c => ∃ j : Nat, j ≤ len ∧ c = .int .i64 j ∧ Hid ((x ∈ zs) ↔ (x ∈ zs.drop j))) (fun c => len - (intOf c).toNat)
  case atStart => exact ⟨0, Nat.zero_le _, rfl, by show _ ↔ _; simp⟩
  case round =>
    obtain ⟨j, hj, rfl, hI⟩ := hrel
    by_cases hlt : j < len
    · rcases HR.out with ⟨_, h1, _, _⟩ | ⟨y, rfl, h1, h2, h3, h4⟩
      · omega
      have c0 := h4 j hlt
      have hJ : (j : Int) < (len : Int) := by omega
      have HLT : Hid (j < len) := hlt
      have ST : Hid (_ ↔ _) := mem_drop_step zs x j (by have := HL.out; omega)
      clear h1 h2 h3 h4
      generalize hz : zs.getD j 0 = z at *
      clear hz
      clear hlt
      by_cases hx : z = x
      · go_wp2_with fail
        go_ret
        refine ⟨?_, rfl⟩
        have : x ∈ zs := hI.out.2 (ST.out.2 (.inl hx))
        simp [this]
      · have HX : Hid (¬ z = x) := hx
        go_wp2_with fail
        go_round
        case rel =>
          refine ⟨j + 1, by have := HLT.out; omega, by go_num, ?_⟩
          show _ ↔ _
          rw [hI.out, ST.out]
          have := HX.out
          simp [this]
        case measure => have := HLT.out; simp [intOf]; omega
    · have hJ : ¬ (j : Int) < (len : Int) := by omega
      have HJ : Hid (j = len) := by show _ = _; omega
      clear hlt
      go_wp2_with fail
      go_ret
      refine ⟨?_, rfl⟩
      have e := hI.out
      rw [List.drop_of_length_le (by have := HL.out; have := HJ.out; omega)] at e
      simp at e
      simp [e]
end Go.Proofs.YtddeaibkdpomlaaGreatDoor
namespace Go.Proofs.YtddeaibkdpomlaaGreatDoor
open Go.RowKit
set_option linter.unusedVariables false

/-- The slot whose turn it is a steps into a round, and what is left of it. -/
def tnV : List (Int × Int) → Int → Int × Int
  | [], _ => (0, 0)
  | s :: t, a => if s.2 ≤ a then ((tnV t (a - s.2)).1 + 1, (tnV t (a - s.2)).2) else (0, s.2 - a)
theorem rd_nonneg (zs : List (Int × Int)) (h : ∀ s ∈ zs, 1 ≤ s.2) : 0 ≤ rdV zs := by
  induction zs with
  | nil => simp [rdV]
  | cons s t ih =>
    rw [rdV]
    have h1 := h s (by simp)
    have h2 := ih fun x hx => h x (by simp [hx])
    omega
theorem tn_at (zs : List (Int × Int)) : ∀ (j : Nat) (a : Int), (∀ s ∈ zs, 1 ≤ s.2) → j < zs.length → rdV (zs.take j) ≤ a → a < rdV (zs.take (j + 1)) → tnV zs a = ((j : Int), rdV (zs.take (j + 1)) - a) := by
  induction zs with
  | nil => intro j a _ h; simp at h
  | cons s t ih =>
    intro j a hp hj h0 h1
    cases j with
    | zero =>
      simp [rdV] at h1
      rw [tnV, if_neg (by omega)]
      simp [rdV]
    | succ j =>
      simp only [List.take_succ_cons, rdV] at h0 h1 ⊢
      have n := rd_nonneg (t.take j) fun x hx => hp x (by simp [List.mem_of_mem_take hx])
      rw [tnV, if_pos (by omega), ih j (a - s.2) (fun x hx => hp x (by simp [hx])) (by simpa using hj) (by omega) (by omega)]
      exact Prod.ext (by simp) (by simp; omega)
def ckOk (c : Int) : Bool := decide (0 ≤ c) && decide (c ≤ 1000000)
def ckV (P : Plc) (c : Int) : Int := if pfV P = 0 then (if ckOk c = false then 3 else 0) else pfV P
theorem ck_pf {P : Plc} {c : Int} (h : ckV P c = 0) : pfV P = 0 ∧ 0 ≤ c ∧ c ≤ 1000000 := by
  unfold ckV at h
  split at h
  · rename_i h1
    split at h
    · cases h
    · rename_i h2
      have h3 : ckOk c = true := by simpa using h2
      simp [ckOk] at h3
      exact ⟨h1, h3⟩
  · rename_i h1
    exact absurd h h1
theorem pf_plan1 (P : Plc) (h : pfV P = 0) : 1 ≤ P.plan.length := by
  have h6 : g6V P = 0 := (or_zero (or_zero (or_zero h).2).2).2
  unfold g6V at h6
  split at h6
  · cases h6
  · rename_i h1; omega
theorem pf_each (P : Plc) (h : pfV P = 0) : ∀ s ∈ P.plan, 1 ≤ s.2 ∧ s.2 ≤ 50 := by
  have h6 : g6V P = 0 := (or_zero (or_zero (or_zero h).2).2).2
  unfold g6V at h6
  split at h6
  · cases h6
  · exact slots_ok _ _ h6
theorem rd_pos (P : Plc) (h : pfV P = 0) : 1 ≤ rdV P.plan ∧ rdV P.plan ≤ 400 := by
  have h1 := pf_plan1 P h
  have h2 := (rd_bound P h P.plan.length (Nat.le_refl _)).2
  have h8 := (pf_plan P h).1
  rw [List.take_length] at h2
  refine ⟨?_, by omega⟩
  have e := pf_each P h
  cases hp : P.plan with
  | nil => rw [hp] at h1; simp at h1
  | cons s t =>
    rw [hp] at e
    rw [rdV]
    have h3 := e s (by simp)
    have h4 := rd_nonneg t fun x hx => (e x (by simp [hx])).1
    omega
/-- What TurnAt answers: the code, the slot, its guest, what is left of it. -/
def tS (P : Plc) (c : Int) : Int × Int := tnV P.plan (c % rdV P.plan)
def tG (P : Plc) (c : Int) : Int := (P.plan.getD (tS P c).1.toNat (0, 0)).1
theorem tS_at (P : Plc) (h : pfV P = 0) (c : Int) (j : Nat) (hj : j < P.plan.length) (h0 : rdV (P.plan.take j) ≤ c % rdV P.plan) (h1 : c % rdV P.plan < rdV (P.plan.take (j + 1))) : tS P c = ((j : Int), rdV (P.plan.take (j + 1)) - c % rdV P.plan) :=
  tn_at P.plan j _ (fun s hs => (pf_each P h s hs).1) hj h0 h1
/-- The steps of a guest within the first r of a round, and what of r is left behind. -/
def tbF (g : Int) (zs : List (Int × Int)) (r : Int) : Int × Int := zs.foldl (fun a s => (a.1 + (if s.1 = g then min s.2 a.2 else 0), a.2 - min s.2 a.2)) (0, r)
theorem tb_take (g : Int) (zs : List (Int × Int)) (r : Int) (j : Nat) (h : j < zs.length) : tbF g (zs.take (j + 1)) r = ((tbF g (zs.take j) r).1 + (if (zs.getD j (0, 0)).1 = g then min (zs.getD j (0, 0)).2 (tbF g (zs.take j) r).2 else 0), (tbF g (zs.take j) r).2 - min (zs.getD j (0, 0)).2 (tbF g (zs.take j) r).2) := by
  unfold tbF
  rw [take_succ_getD zs (0, 0) j h, List.foldl_append]
  rfl
theorem tb_bound (g : Int) (zs : List (Int × Int)) (r : Int) (hr : 0 ≤ r) (hp : ∀ s ∈ zs, 1 ≤ s.2) : ∀ j, j ≤ zs.length → 0 ≤ (tbF g (zs.take j) r).1 ∧ 0 ≤ (tbF g (zs.take j) r).2 ∧ (tbF g (zs.take j) r).1 + (tbF g (zs.take j) r).2 ≤ r := by
  intro j
  induction j with
  | zero => intro _; simp [tbF]; exact hr
  | succ j ih =>
    intro hj
    have h1 := ih (by omega)
    have h2 := hp _ (getD_mem zs (0, 0) j (by omega))
    rw [tb_take g zs r j (by omega)]
    simp only
    generalize tbF g (zs.take j) r = q at *
    generalize zs.getD j (0, 0) = s at *
    have m : min s.2 q.2 ≤ q.2 := Int.min_le_right _ _
    have m2 : 0 ≤ min s.2 q.2 := by rw [Int.min_def]; split <;> omega
    split <;> omega
theorem tb_still (g : Int) (zs : List (Int × Int)) (r : Int) (hp : ∀ s ∈ zs, 1 ≤ s.2) (j : Nat) (h0 : (tbF g (zs.take j) r).2 = 0) : ∀ k, j + k ≤ zs.length → tbF g (zs.take (j + k)) r = tbF g (zs.take j) r := by
  intro k
  induction k with
  | zero => intro _; rfl
  | succ k ih =>
    intro hk
    have h1 := ih (by omega)
    have h2 := hp _ (getD_mem zs (0, 0) (j + k) (by omega))
    rw [← Nat.add_assoc, tb_take g zs r (j + k) (by omega), h1, h0]
    have m : min (zs.getD (j + k) (0, 0)).2 0 = 0 := by rw [Int.min_def]; split <;> omega
    rw [m]
    refine Prod.ext ?_ ?_
    · simp
    · simp [h0]
/-- The steps of a guest among the first c. -/
def tbV (P : Plc) (c g : Int) : Int := c / rdV P.plan * frV g P.plan + (tbF g P.plan (c % rdV P.plan)).1
def tbC (P : Plc) (c g : Int) : Int := if ckV P c = 0 then (if isG P.own.length g = false then 4 else 0) else ckV P c
def tbR (P : Plc) (c g : Int) : Int × Int := if tbC P c g = 0 then (0, tbV P c g) else (tbC P c g, 0)
def tR (P : Plc) (c : Int) : Int × Int × Int × Int := if ckV P c = 0 then (0, (tS P c).1, tG P c, (tS P c).2) else (ckV P c, 0, 0, 0)
theorem fr_le (P : Plc) (h : pfV P = 0) (g : Int) : 0 ≤ frV g P.plan ∧ frV g P.plan ≤ 400 := by
  have h2 := fr_bound P h g P.plan.length (Nat.le_refl _)
  have h8 := (pf_plan P h).1
  rw [List.take_length] at h2
  omega
theorem div_le {c r : Int} (h0 : 0 ≤ c) (h1 : c ≤ 1000000) (hr : 1 ≤ r) : 0 ≤ c / r ∧ c / r ≤ 1000000 := by
  refine ⟨Int.ediv_nonneg h0 (by omega), ?_⟩
  have : c / r ≤ c := Int.ediv_le_self _ h0
  omega
theorem mul_le {a b : Int} (h0 : 0 ≤ a) (h1 : a ≤ 1000000) (k0 : 0 ≤ b) (k1 : b ≤ 400) : 0 ≤ a * b ∧ a * b ≤ 400000000 := by
  refine ⟨Int.mul_nonneg h0 k0, ?_⟩
  have h : a * b ≤ 1000000 * 400 := Int.mul_le_mul h1 k1 k0 (by omega)
  omega
end Go.Proofs.YtddeaibkdpomlaaGreatDoor
