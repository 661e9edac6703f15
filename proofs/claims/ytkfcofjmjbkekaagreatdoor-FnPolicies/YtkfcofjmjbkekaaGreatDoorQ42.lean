/- Texts of this seat, joined. -/
import Derived.Test.YtkfcofjmjbkekaaGreatDoorShelf
import Derived.Lib.ItoaNum
import Derived.Lib.AppendIntMem
import Derived.Test.YtkfcofjmjbkekaaGreatDoorQ11
import Derived.Test.YtkfcofjmjbkekaaGreatDoorQ34
import Derived.Test.YtkfcofjmjbkekaaGreatDoorQ41
namespace Go.Proofs.YtkfcofjmjbkekaaGreatDoor
open Go.RowKit
set_option linter.unusedVariables false

def rowP (j : Nat) : Wb := if j = 0 then wdO else if j = 1 then wdL else if j = 2 then wdB else wdS
def lowP (j : Nat) : Int := if j = 0 then 1 else if j = 1 then 5 else 2
def topP (j : Nat) : Int := if j = 0 then 9 else if j = 1 then 5 else 2
/-- What the program's variables hold. -/
structure Gp (w : World) : Prop where
  ml : ∃ m, w.cell? ⟨2, 0, none⟩ = some (.int .i64 m)
  sy : ∃ ev, w.cell? ⟨3, 0, none⟩ = some ev ∧ (ev = .nilIface ∨ ∃ te pe, ev = .iface te pe)
  rg : ∃ ev, w.cell? ⟨4, 0, none⟩ = some ev ∧ (ev = .nilIface ∨ ∃ te pe, ev = .iface te pe)
  et : w.cell? ⟨1, 0, none⟩ = some (.iface 137 (.agg #[.pointer (some ⟨10, 45, none⟩)]))
  tab : Lib.TabIs Tryz.prog w "internal/strconv.uint64pow10" .u64 Lib.pow10Tab
  form : ∀ j, j < 4 → w.cell? ⟨0, 3 * j, none⟩ = some (.string (bq (rowP j))) ∧ w.cell? ⟨0, 3 * j + 1, none⟩ = some (.int .i64 (lowP j)) ∧ w.cell? ⟨0, 3 * j + 2, none⟩ = some (.int .i64 (topP j))
theorem Gp.keep {w w' : World} (g : Gp w) (b : Below w.heap.size w w') : Gp w' := by
  obtain ⟨⟨m, hm⟩, ⟨e1, h1, k1⟩, ⟨e2, h2, k2⟩, h3, h4, h5⟩ := g
  exact ⟨⟨m, cell_keep b hm⟩, ⟨e1, cell_keep b h1, k1⟩, ⟨e2, cell_keep b h2, k2⟩, cell_keep b h3, Lib.tabBelow_of_tabIs h4 _ b, fun j hj => ⟨cell_keep b (h5 j hj).1, cell_keep b (h5 j hj).2.1, cell_keep b (h5 j hj).2.2⟩⟩
theorem bqP_toList (l : Wb) : (bq l).toList = l := by rw [ByteArray.toList_eq]; rfl
def nrE : Value := .iface 81 (.agg #[.int .i64 5])
theorem i_parseInt (x : Wb) (hx : x.length ≤ 1048576) (w : World) (g : Gp w) : Calls Tryz.prog 75 #[.string (bq x), .int .i64 10, .int .i64 64] w fun e w' =>
    (∃ v er, e = .returned (.tuple #[.int .i64 v, er]) ∧ (Lib.parseIntB 64 x = .ok v ∧ er = .nilIface ∨ (∀ v, Lib.parseIntB 64 x ≠ .ok v) ∧ ∃ t p, er = .iface t p)) ∧ Below w.heap.size w w' := by
  have hs : (bq x).size ≤ 1048576 := by rw [bq_size]; exact hx
  cases h : Lib.parseIntB 64 x with
  | ok v =>
    refine (Tryz.strconv_ParseInt_10_at64_ok (bq x) (by omega) v h w).mono ?_
    rintro e w' ⟨rfl, hw⟩
    refine ⟨⟨v, _, rfl, .inl ⟨rfl, rfl⟩⟩, ?_⟩
    rcases hw with rfl | ⟨t, rfl⟩
    · exact Below.refl _ _
    · exact Lib.bytesWorld_below _ _ _
  | «syntax» =>
    obtain ⟨ev, h1, h2⟩ := g.sy
    refine (Tryz.strconv_ParseInt_10_at64_syntax (bq x) (by omega) h ev w h1 h2).mono ?_
    rintro e w' ⟨N, rfl, _, _, hb⟩
    exact ⟨⟨_, _, rfl, .inr ⟨(fun v e => by cases e), _, _, rfl⟩⟩, hb⟩
  | range =>
    obtain ⟨ev, h1, h2⟩ := g.rg
    refine (Tryz.strconv_ParseInt_10_at64_range (bq x) (by omega) h ev w h1 h2).mono ?_
    rintro e w' ⟨N, rfl, _, _, hb⟩
    exact ⟨⟨_, _, rfl, .inr ⟨(fun v e => by cases e), _, _, rfl⟩⟩, hb⟩
theorem i_fmtInt (z : Int) (h0 : 0 ≤ z) (h1 : z ≤ 999) (w : World) (g : Gp w) : Calls Tryz.prog 76 #[.int .i64 z, .int .i64 10] w fun e w' => e = .returned (.string (bq (Lib.decDigits z.toNat))) ∧ Below w.heap.size w w' := by
  refine (Tryz.strconv_FormatInt_10 z (by omega) (by omega) w g.tab).mono ?_
  rintro e w' ⟨rfl, k, os, rfl⟩
  exact ⟨by rw [Lib.itoa, if_neg (by omega)]; rfl, Lib.below_grow _ w (Nat.le_refl _) k os⟩
def nmE : Option Int → Value
  | some z => .tuple #[.int .i64 z, .nilIface]
  | none => .tuple #[.int .i64 0, nrE]
set_option maxRecDepth 20000 in
set_option maxHeartbeats 4000000 in
theorem i_readNumber (x : Wb) (hx : x.length ≤ 1048576) (w : World) (g : Gp w) : Calls Tryz.prog 52 #[.string (bq x)] w fun e w' => e = .returned (nmE (nmP x)) ∧ Below w.heap.size w w' := by
  have HP := i_parseInt x hx w g
  have G : Hid (Gp w) := g
  clear g
  cases hn : nmP x with
  | some z =>
    obtain ⟨h0, h1, h2, h3, h4⟩ := nm_some hn
    have hp := ok_parse h4
    rw [← h3] at hp
    have FI := fun w2 (b : Below w.heap.size w w2) => i_fmtInt z h0 h1 w2 (G.out.keep b)
    rw [h2] at FI
    have HF : Hid (_ → _) := fun (_ : True) => FI
    clear FI h2 h3 h4 hn
    generalize bq x = S at *
    go_enter Tryz.func52, Tryz.ntmps52
    go_wp2_with fail
    refine HP.mono ?_
    clear HP
    rintro e w1 ⟨⟨v, er, rfl, hv⟩, b1⟩
    rcases hv with ⟨e1, rfl⟩ | ⟨e1, _⟩
    · rw [hp] at e1
      cases e1
      go_wp2_with (go_at_call 76; refine (HF.out trivial _ b1).mono ?_; rintro e w2 ⟨rfl, b2⟩)
      go_ret2
      exact ⟨rfl, on b1 b2⟩
    · exact absurd hp (e1 z)
  | none =>
    have hq := nm_none hn
    clear hn
    go_enter Tryz.func52, Tryz.ntmps52
    go_wp2_with fail
    refine HP.mono ?_
    clear HP
    rintro e w1 ⟨⟨v, er, rfl, hv⟩, b1⟩
    rcases hv with ⟨_, rfl⟩ | ⟨_, t, p, rfl⟩
    · by_cases h0 : v < 0
      · go_wp2_with fail
        go_ret2
        exact ⟨rfl, b1⟩
      · by_cases h1 : 999 < v
        · go_wp2_with fail
          go_ret2
          exact ⟨rfl, b1⟩
        · have FI := fun w2 (b : Below w.heap.size w w2) => i_fmtInt v (by omega) (by omega) w2 (G.out.keep b)
          have hne : ((bq (Lib.decDigits v.toNat)).toList == (bq x).toList) = false := beq_eq_false_iff_ne.2 fun e => hq v (by omega) (by omega) (by rw [bqP_toList, bqP_toList] at e; exact e)
          clear hq
          generalize bq (Lib.decDigits v.toNat) = D at *
          generalize bq x = S at *
          go_wp2_with (go_at_call 76; refine (FI _ b1).mono ?_; rintro e w2 ⟨rfl, b2⟩)
          go_ret2
          exact ⟨rfl, on b1 b2⟩
    · clear hq
      go_wp2_with fail
      go_ret2
      exact ⟨rfl, b1⟩
def fmE : Option Nat → Value
  | some k => .tuple #[.int .i64 (k : Int), .nilIface]
  | none => .tuple #[.int .i64 0, nrE]
def hitP (x : Wb) (n : Nat) (j : Nat) : Prop := rowP j = x ∧ lowP j ≤ (n : Int) ∧ (n : Int) ≤ topP j
theorem fm_hit {x : Wb} {n j : Nat} (hj : j < 4) (h : hitP x n j) : fmP x n = some j := by
  obtain ⟨rfl, h1, h2⟩ := h
  match j, hj with
  | 0, _ => unfold fmP; rw [if_pos ⟨rfl, by unfold lowP at h1; simp at h1; omega, by unfold topP at h2; simp at h2; omega⟩]
  | 1, _ => have : n = 5 := by unfold lowP at h1; unfold topP at h2; simp at h1 h2; omega
            subst this; rfl
  | 2, _ => have : n = 2 := by unfold lowP at h1; unfold topP at h2; simp at h1 h2; omega
            subst this; rfl
  | 3, _ => have : n = 2 := by unfold lowP at h1; unfold topP at h2; simp at h1 h2; omega
            subst this; rfl
theorem fm_miss {x : Wb} {n : Nat} (h : ∀ j, j < 4 → ¬ hitP x n j) : fmP x n = none := by
  have h0 := h 0 (by omega)
  have h1 := h 1 (by omega)
  have h2 := h 2 (by omega)
  have h3 := h 3 (by omega)
  unfold fmP
  rw [if_neg (fun e => h0 ⟨e.1.symm, by simp [lowP]; omega, by simp [topP]; omega⟩), if_neg (fun e => h1 ⟨e.1.symm, by simp [lowP]; omega, by simp [topP]; omega⟩),
    if_neg (fun e => h2 ⟨e.1.symm, by simp [lowP]; omega, by simp [topP]; omega⟩), if_neg (fun e => h3 ⟨e.1.symm, by simp [lowP]; omega, by simp [topP]; omega⟩)]
theorem form_idx0 (w : World) : (Instr.index 92 (.agg #[.string (bq (rowP 0)), .int .i64 (lowP 0), .int .i64 (topP 0), .string (bq (rowP 1)), .int .i64 (lowP 1), .int .i64 (topP 1), .string (bq (rowP 2)), .int .i64 (lowP 2), .int .i64 (topP 2), .string (bq (rowP 3)), .int .i64 (lowP 3), .int .i64 (topP 3)]) (.int .i64 ((0 : Nat) : Int))).run Tryz.prog w = .ok (.agg #[.string (bq (rowP 0)), .int .i64 (lowP 0), .int .i64 (topP 0)]) w := by kernel_rfl
theorem form_idx1 (w : World) : (Instr.index 92 (.agg #[.string (bq (rowP 0)), .int .i64 (lowP 0), .int .i64 (topP 0), .string (bq (rowP 1)), .int .i64 (lowP 1), .int .i64 (topP 1), .string (bq (rowP 2)), .int .i64 (lowP 2), .int .i64 (topP 2), .string (bq (rowP 3)), .int .i64 (lowP 3), .int .i64 (topP 3)]) (.int .i64 ((1 : Nat) : Int))).run Tryz.prog w = .ok (.agg #[.string (bq (rowP 1)), .int .i64 (lowP 1), .int .i64 (topP 1)]) w := by kernel_rfl
theorem form_idx2 (w : World) : (Instr.index 92 (.agg #[.string (bq (rowP 0)), .int .i64 (lowP 0), .int .i64 (topP 0), .string (bq (rowP 1)), .int .i64 (lowP 1), .int .i64 (topP 1), .string (bq (rowP 2)), .int .i64 (lowP 2), .int .i64 (topP 2), .string (bq (rowP 3)), .int .i64 (lowP 3), .int .i64 (topP 3)]) (.int .i64 ((2 : Nat) : Int))).run Tryz.prog w = .ok (.agg #[.string (bq (rowP 2)), .int .i64 (lowP 2), .int .i64 (topP 2)]) w := by kernel_rfl
theorem form_idx3 (w : World) : (Instr.index 92 (.agg #[.string (bq (rowP 0)), .int .i64 (lowP 0), .int .i64 (topP 0), .string (bq (rowP 1)), .int .i64 (lowP 1), .int .i64 (topP 1), .string (bq (rowP 2)), .int .i64 (lowP 2), .int .i64 (topP 2), .string (bq (rowP 3)), .int .i64 (lowP 3), .int .i64 (topP 3)]) (.int .i64 ((3 : Nat) : Int))).run Tryz.prog w = .ok (.agg #[.string (bq (rowP 3)), .int .i64 (lowP 3), .int .i64 (topP 3)]) w := by kernel_rfl
theorem form_idx (j : Nat) (h : j < 4) (w : World) : (Instr.index 92 (.agg #[.string (bq (rowP 0)), .int .i64 (lowP 0), .int .i64 (topP 0), .string (bq (rowP 1)), .int .i64 (lowP 1), .int .i64 (topP 1), .string (bq (rowP 2)), .int .i64 (lowP 2), .int .i64 (topP 2), .string (bq (rowP 3)), .int .i64 (lowP 3), .int .i64 (topP 3)]) (.int .i64 (j : Int))).run Tryz.prog w = .ok (.agg #[.string (bq (rowP j)), .int .i64 (lowP j), .int .i64 (topP j)]) w := by
  match j, h with
  | 0, _ => exact form_idx0 w
  | 1, _ => exact form_idx1 w
  | 2, _ => exact form_idx2 w
  | 3, _ => exact form_idx3 w
set_option maxRecDepth 20000 in
set_option maxHeartbeats 8000000 in
theorem i_readForm (x : Wb) (hx : x.length ≤ 1048576) (n : Nat) (hn : n ≤ 1048576) (w : World) (g : Gp w) : Calls Tryz.prog 51 #[.string (bq x), .int .i64 (n : Int)] w fun e w' => e = .returned (fmE (fmP x n)) ∧ Below w.heap.size w w' := by
  obtain ⟨g0, g1, g2⟩ : w.cell? ⟨0, 0, none⟩ = some (.string (bq (rowP 0))) ∧ w.cell? ⟨0, 1, none⟩ = some (.int .i64 (lowP 0)) ∧ w.cell? ⟨0, 2, none⟩ = some (.int .i64 (topP 0)) := g.form 0 (by omega)
  obtain ⟨g3, g4, g5⟩ : w.cell? ⟨0, 3, none⟩ = some (.string (bq (rowP 1))) ∧ w.cell? ⟨0, 4, none⟩ = some (.int .i64 (lowP 1)) ∧ w.cell? ⟨0, 5, none⟩ = some (.int .i64 (topP 1)) := g.form 1 (by omega)
  obtain ⟨g6, g7, g8⟩ : w.cell? ⟨0, 6, none⟩ = some (.string (bq (rowP 2))) ∧ w.cell? ⟨0, 7, none⟩ = some (.int .i64 (lowP 2)) ∧ w.cell? ⟨0, 8, none⟩ = some (.int .i64 (topP 2)) := g.form 2 (by omega)
  obtain ⟨g9, g10, g11⟩ : w.cell? ⟨0, 9, none⟩ = some (.string (bq (rowP 3))) ∧ w.cell? ⟨0, 10, none⟩ = some (.int .i64 (lowP 3)) ∧ w.cell? ⟨0, 11, none⟩ = some (.int .i64 (topP 3)) := g.form 3 (by omega)
  obtain ⟨F, hF⟩ : ∃ F, fmP x n = F := ⟨_, rfl⟩
  have HF : Hid (fmP x n = F) := hF
  have BE : Hid (∀ j : Nat, ((bq (rowP j)).toList == (bq x).toList) = decide (rowP j = x)) := fun j => by rw [bqP_toList, bqP_toList]; exact Bool.eq_iff_iff.2 (by simp)
  rw [hF]
  clear g hF
  have hnI : (n : Int) ≤ 1048576 := by omega
  go_enter Tryz.func51, Tryz.ntmps51
  go_wp2_with fail
  clear g0 g1 g2 g3 g4 g5 g6 g7 g8 g9 g10 g11
  go_loopw [9] (fun i wr => ∃ j : Nat, j ≤ 4 ∧ i = .int .i64 (j : Int) ∧ Below w.heap.size w wr ∧ ∀ i, i < j → ¬ hitP x n i) (fun i _ => 4 - (intOf i).toNat)
  case atStart => exact ⟨0, by omega, rfl, Below.refl _ _, fun i hi => absurd hi (Nat.not_lt_zero _)⟩
  case round =>
    obtain ⟨j, hj, rfl, hB, hm⟩ := hrel
    have HM : Hid (∀ i, i < j → ¬ hitP x n i) := hm
    have HB : Hid (Below w.heap.size w wr) := hB
    clear hm hB
    have BJ := BE.out j
    by_cases hlt : j < 4
    · have hJ : (j : Int) < 4 := by omega
      have HJ : Hid (j < 4) := hlt
      have ix := form_idx j hlt
      clear hlt hj
      by_cases k0 : rowP j = x
      · rw [decide_eq_true k0] at BJ
        by_cases k1 : lowP j ≤ (n : Int)
        · by_cases k2 : (n : Int) ≤ topP j
          · have e : F = some j := by rw [← HF.out]; exact fm_hit HJ.out ⟨k0, k1, k2⟩
            subst e
            clear k0
            go_wp2_with fail
            go_ret2
            exact ⟨rfl, al HB.out _⟩
          · have k2' : topP j < (n : Int) := by omega
            have nh : Hid (¬ hitP x n j) := fun h => k2 h.2.2
            clear k0
            go_wp2_with fail
            go_roundw
            case rel => exact ⟨j + 1, by have := HJ.out; omega, by go_num, al HB.out _, fun i hi => by
              by_cases e : i < j
              · exact HM.out i e
              · obtain rfl : i = j := by omega
                exact nh.out⟩
            case measure => have := HJ.out; simp [intOf]; omega
        · have k1' : (n : Int) < lowP j := by omega
          have nh : Hid (¬ hitP x n j) := fun h => k1 h.2.1
          clear k0
          go_wp2_with fail
          go_roundw
          case rel => exact ⟨j + 1, by have := HJ.out; omega, by go_num, al HB.out _, fun i hi => by
            by_cases e : i < j
            · exact HM.out i e
            · obtain rfl : i = j := by omega
              exact nh.out⟩
          case measure => have := HJ.out; simp [intOf]; omega
      · rw [decide_eq_false k0] at BJ
        have nh : Hid (¬ hitP x n j) := fun h => k0 h.1
        clear k0
        go_wp2_with fail
        go_roundw
        case rel => exact ⟨j + 1, by have := HJ.out; omega, by go_num, al HB.out _, fun i hi => by
          by_cases e : i < j
          · exact HM.out i e
          · obtain rfl : i = j := by omega
            exact nh.out⟩
        case measure => have := HJ.out; simp [intOf]; omega
    · have hJ : ¬ (j : Int) < 4 := by omega
      obtain rfl : j = 4 := by omega
      have e : F = none := by rw [← HF.out]; exact fm_miss HM.out
      subst e
      clear BJ
      go_wp2_with fail
      go_ret2
      exact ⟨rfl, HB.out⟩
end Go.Proofs.YtkfcofjmjbkekaaGreatDoor
namespace Go.Proofs.YtkfcofjmjbkekaaGreatDoor
open Go.RowKit
set_option linter.unusedVariables false

theorem Wp.void (w : World) (base : Nat) : Wp w base (.slice none 0 0) (.slice none 0 0) (.slice none 0 0) (.slice none 0 0) vdP [] :=
  ⟨World.ownsRow_nil w base _ _, rfl, fun i x e => by simp at e, List.Pairwise.nil, Ls.nil _ _ _, Prs.nil _ _ _, Prs.nil _ _ _⟩
theorem rowW {w w' : World} {base base' e e' sz sz' n m : Nat} {v u : Value} {xs ys : List Value} (h : w.ownsRow base e sz v n xs) (k : w.ownsRow base' e' sz' u m ys) (g : w.grownBy w' u.ownBlock) (hne : e ≠ e') : w'.ownsRow base e sz v n xs :=
  World.ownsRow.kept h g (row_typesX h k hne)
theorem Wp.pushOwn {w w' : World} {base : Nat} {v0 v1 v2 v3 v' u : Value} {P : Plc} {xs : List Value} {zs : List Int} (h : Wp w base v0 v1 v2 v3 P xs) (hu : Nums w base u zs) (ha : ∀ x ∈ xs, Apt x u)
    (hr : w'.ownsRow base 53 1 v' (xs ++ [u]).length (xs ++ [u])) (hg : w.grownBy w' v0.ownBlock) : Wp w' base v' v1 v2 v3 (adP P 0 zs) (xs ++ [u]) := by
  refine ⟨hr, by show _ = (P.own ++ [zs]).length; simp [h.xl], fun i x e => ?_, ?_, rowW h.lanes h.own hg (by decide), rowW h.bells h.own hg (by decide), rowW h.plan h.own hg (by decide)⟩
  · show Nums w' base x ((P.own ++ [zs]).getD i [])
    by_cases hi : i < xs.length
    · rw [List.getElem?_append_left hi] at e
      have e2 : (P.own ++ [zs]).getD i [] = P.own.getD i [] := by rw [List.getD, List.getD, List.getElem?_append_left (by rw [← h.xl]; exact hi)]
      rw [e2]
      exact rowW (h.rows i x e) h.own hg (by decide)
    · rw [List.getElem?_append_right (by omega)] at e
      have hi2 : i = xs.length := by have := (List.getElem?_eq_some_iff.1 e).1; simp at this; omega
      subst hi2
      rw [Nat.sub_self] at e
      cases e
      have e2 : (P.own ++ [zs]).getD xs.length [] = zs := by rw [h.xl, List.getD, List.getElem?_append_right (Nat.le_refl _)]; simp
      rw [e2]
      exact rowW hu h.own hg (by decide)
  · exact List.pairwise_append.2 ⟨h.apart, List.pairwise_singleton _ _, fun x hx y hy => by rw [List.mem_singleton] at hy; subst hy; exact ha x hx⟩
theorem Wp.pushLane {w w' : World} {base : Nat} {v0 v1 v2 v3 v' : Value} {P : Plc} {xs : List Value} {zs : List Int} (h : Wp w base v0 v1 v2 v3 P xs)
    (hr : Ls 58 w' base v' (P.lanes ++ [⟨zs.getD 0 0, zs.getD 1 0, zs.getD 2 0, zs.getD 3 0, zs.getD 4 0⟩])) (hg : w.grownBy w' v1.ownBlock) : Wp w' base v0 v' v2 v3 (adP P 1 zs) xs :=
  ⟨rowW h.own h.lanes hg (by decide), h.xl, fun i x e => rowW (h.rows i x e) h.lanes hg (by decide), h.apart, hr, rowW h.bells h.lanes hg (by decide), rowW h.plan h.lanes hg (by decide)⟩
theorem Wp.pushBell {w w' : World} {base : Nat} {v0 v1 v2 v3 v' : Value} {P : Plc} {xs : List Value} {zs : List Int} (h : Wp w base v0 v1 v2 v3 P xs)
    (hr : Prs 60 w' base v' (P.bells ++ [(zs.getD 0 0, zs.getD 1 0)])) (hg : w.grownBy w' v2.ownBlock) : Wp w' base v0 v1 v' v3 (adP P 2 zs) xs :=
  ⟨rowW h.own h.bells hg (by decide), h.xl, fun i x e => rowW (h.rows i x e) h.bells hg (by decide), h.apart, rowW h.lanes h.bells hg (by decide), hr, rowW h.plan h.bells hg (by decide)⟩
theorem Wp.pushSlot {w w' : World} {base : Nat} {v0 v1 v2 v3 v' : Value} {P : Plc} {xs : List Value} {zs : List Int} (h : Wp w base v0 v1 v2 v3 P xs)
    (hr : Prs 62 w' base v' (P.plan ++ [(zs.getD 0 0, zs.getD 1 0)])) (hg : w.grownBy w' v3.ownBlock) : Wp w' base v0 v1 v2 v' (adP P 3 zs) xs :=
  ⟨rowW h.own h.plan hg (by decide), h.xl, fun i x e => rowW (h.rows i x e) h.plan hg (by decide), h.apart, rowW h.lanes h.plan hg (by decide), rowW h.bells h.plan hg (by decide), hr⟩
theorem Wp.lt {w : World} {base : Nat} {v0 v1 v2 v3 : Value} {P : Plc} {xs : List Value} (h : Wp w base v0 v1 v2 v3 P xs) {x : Value} (hx : x ∈ xs) : ∀ k, x.ownBlock = some k → k < w.heap.size := fun k e => by
  obtain ⟨i, hi, e2⟩ := List.mem_iff_getElem.1 hx
  exact ((h.rows i x (by rw [List.getElem?_eq_getElem hi, e2])).lt k e).2
/-- A row made behind the policy is apart from its rows. -/
theorem Wp.apt {w w2 : World} {base B : Nat} {v0 v1 v2 v3 u : Value} {P : Plc} {xs : List Value} {zs : List Int} (h : Wp w base v0 v1 v2 v3 P xs) (hu : Nums w2 B u zs) (hB : w.heap.size ≤ B) : ∀ x ∈ xs, Apt x u := fun x hx => by
  cases e : x.ownBlock with
  | none => exact .inl e
  | some k =>
    refine .inr fun e2 => ?_
    rw [e] at e2
    have := h.lt hx k e
    have := (hu.lt k e2.symm).1
    omega
theorem Wp.shape {w : World} {base : Nat} {v0 v1 v2 v3 : Value} {P : Plc} {xs : List Value} (h : Wp w base v0 v1 v2 v3 P xs) : ∃ b0 b1 b2 b3 d0 d1 d2 d3, v0 = .slice b0 P.own.length d0 ∧ v1 = .slice b1 P.lanes.length d1 ∧ v2 = .slice b2 P.bells.length d2 ∧ v3 = .slice b3 P.plan.length d3 := by
  obtain ⟨b1, d1, e1, _⟩ := h.lanes.shape
  obtain ⟨b2, d2, e2, _⟩ := h.bells.shape
  obtain ⟨b3, d3, e3, _⟩ := h.plan.shape
  have := h.xl
  obtain ⟨_, ⟨e0, k⟩ | ⟨g, cap, _, e0, _⟩⟩ := h.own
  · exact ⟨none, b1, b2, b3, 0, d1, d2, d3, by rw [e0, ← this, k], e1, e2, e3⟩
  · exact ⟨_, b1, b2, b3, cap, d1, d2, d3, by rw [e0, this], e1, e2, e3⟩
theorem Wp.isS2 {w : World} {base n cap : Nat} {a : Option Addr} {v1 v2 v3 : Value} {P : Plc} {xs : List Value} (h : Wp w base (.slice a n cap) v1 v2 v3 P xs) : IsS2 w a n cap P.own := by
  have hx := h.xl
  have h1' := h.own
  obtain ⟨k1, ⟨hv, k3⟩ | ⟨g, c, cur, hv, _, _, k4, k5, _⟩⟩ := h.own
  · cases hv
    exact .inl ⟨rfl, rfl, rfl, List.eq_nil_of_length_eq_zero (by omega)⟩
  · cases hv
    refine .inr ⟨⟨g, 0, none⟩, rfl, k4, k5, hx.symm, fun i hi => ?_⟩
    have hc := World.ownsRow.cellAt h1' i (by omega)
    have hr := h.rows i xs[i] (by rw [List.getElem?_eq_getElem])
    obtain ⟨a', cap', hs, _⟩ := hr.shape
    refine ⟨a', _, cap', ?_, by rw [hs] at hr; exact hr.read⟩
    rw [Addr.add_lit, Nat.zero_add, hc, ← hs, List.getElem?_eq_getElem (by omega)]
theorem Wp.pl {w : World} {base : Nat} {a0 a1 a2 a3 : Option Addr} {n0 c0 n1 c1 n2 c2 n3 c3 : Nat} {P : Plc} {xs : List Value} (h : Wp w base (.slice a0 n0 c0) (.slice a1 n1 c1) (.slice a2 n2 c2) (.slice a3 n3 c3) P xs) : Pl w a0 n0 c0 a1 n1 c1 a2 n2 c2 a3 n3 c3 P :=
  ⟨h.isS2, h.lanes.read, h.bells.read, h.plan.read⟩
end Go.Proofs.YtkfcofjmjbkekaaGreatDoor
