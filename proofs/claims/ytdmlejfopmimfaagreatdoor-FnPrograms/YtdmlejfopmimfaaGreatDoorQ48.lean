/- Texts of this seat, joined. -/
import Derived.Test.YtdmlejfopmimfaaGreatDoorQ47
namespace Go.Proofs.YtdmlejfopmimfaaGreatDoor
open Go.RowKit
set_option linter.unusedVariables false

def numK (l : Wb) : Bool := (numO l).isSome
theorem allW_no {l : Wb} (h : l.all (withinB 48 57) = false) : numO l = none := by
  unfold numO allW
  rw [h, if_neg]
  simp
set_option maxRecDepth 20000 in
set_option maxHeartbeats 4000000 in
theorem s_number (l : Wb) (w : World) (hl : l.length ≤ 1048576) :
    Calls Tryz.prog 78 #[.string (bq l)] w fun e w' => e = .returned (.tuple #[.int .i64 (numX l), .bool (numK l)]) ∧ w' = w := by
  have hz : (bq l).size = l.length := bq_size l
  have bad : Hid (numO l = none → numX l = 0 ∧ numK l = false) := fun h => by simp [numX, numK, h]
  obtain ⟨n, hn⟩ : ∃ n, l.length = n := ⟨_, rfl⟩
  have HN : Hid (l.length = n) := hn
  rw [hn] at hz hl
  have hnI : (n : Int) ≤ 1048576 := by omega
  have GT : Hid (∀ j (h : j < (bq l).size), (bq l)[j]'h = l.getD j 0) := bq_get l
  obtain ⟨X, hX⟩ : ∃ X, numX l = X := ⟨_, rfl⟩
  obtain ⟨K, hK⟩ : ∃ K, numK l = K := ⟨_, rfl⟩
  have HX : Hid (numX l = X ∧ numK l = K) := ⟨hX, hK⟩
  rw [hX, hK]
  clear hn hX hK
  generalize bq l = S at *
  by_cases h1 : n < 1
  · have E : numX l = 0 ∧ numK l = false := bad.out (by unfold numO allW; rw [if_neg]; intro h; have := HN.out; cases l <;> simp_all)
    obtain ⟨rfl, rfl⟩ : (0 : Int) = X ∧ false = K := ⟨by rw [← E.1]; exact HX.out.1, by rw [← E.2]; exact HX.out.2⟩
    have hI : (n : Int) < 1 := by omega
    clear E HX bad
    go_enter Tryz.func78, Tryz.ntmps78
    go_wp2_with fail
    exact bodyPost_ret (v := .tuple #[.int .i64 0, .bool false]) (by simp [results, Tryz.results78, go_sem]) rfl ⟨rfl, rfl⟩
  by_cases h2 : 10 < n
  · have E : numX l = 0 ∧ numK l = false := bad.out (by unfold numO; rw [if_neg]; intro h; have := HN.out; omega)
    obtain ⟨rfl, rfl⟩ : (0 : Int) = X ∧ false = K := ⟨by rw [← E.1]; exact HX.out.1, by rw [← E.2]; exact HX.out.2⟩
    have hI : ¬ (n : Int) < 1 := by omega
    have hI2 : (10 : Int) < (n : Int) := by omega
    clear E HX bad
    go_enter Tryz.func78, Tryz.ntmps78
    go_wp2_with fail
    exact bodyPost_ret (v := .tuple #[.int .i64 0, .bool false]) (by simp [results, Tryz.results78, go_sem]) rfl ⟨rfl, rfl⟩
  have hI : ¬ (n : Int) < 1 := by omega
  have hI2 : ¬ (10 : Int) < (n : Int) := by omega
  have H10 : Hid (1 ≤ n ∧ n ≤ 10) := ⟨by omega, by omega⟩
  clear h1 h2
  go_enter Tryz.func78, Tryz.ntmps78
  go_wp2_with fail
  go_loop [4, 5] (fun d i => ∃ j : Nat, j ≤ n ∧ i = .int .i64 j ∧ d = .int .i64 (dvl (l.take j) : Nat) ∧ Hid ((l.take j).all (withinB 48 57) = true)) (fun _ i => n - (intOf i).toNat)
  case atStart => exact ⟨0, Nat.zero_le _, rfl, rfl, rfl⟩
  case round =>
    obtain ⟨j, hj, rfl, rfl, hA⟩ := hrel
    by_cases hlt : j < n
    · have hJ : (j : Int) < (n : Int) := by omega
      have HL : Hid (j < n) := hlt
      have hg := GT.out j (by omega)
      have NX : Hid (_ = _) := dvl_next l j (by have := HN.out; omega)
      have AN : Hid (_ = _) := all_takeB (withinB 48 57) l j (by have := HN.out; omega)
      have AF : Hid (withinB 48 57 (l.getD j 0) = false → l.all (withinB 48 57) = false) := all_falseB (withinB 48 57) l j (by have := HN.out; omega)
      have HD := dvl_small (l.take j) hA.out (by rw [List.length_take]; have := H10.out; omega)
      obtain ⟨c, hc⟩ : ∃ c, l.getD j 0 = c := ⟨_, rfl⟩
      obtain ⟨d, hd⟩ : ∃ d, dvl (l.take j) = d := ⟨_, rfl⟩
      rw [hc] at hg NX AN AF
      rw [hd] at NX HD ⊢
      have hd1 : (d : Int) ≤ 10000000000 := by omega
      clear hc hd hj HD
      by_cases c1 : c.toNat < 48
      · have WF : withinB 48 57 c = false := by unfold withinB; rw [decide_eq_false (by omega)]; rfl
        have E : numX l = 0 ∧ numK l = false := bad.out (allW_no (AF.out WF))
        obtain ⟨rfl, rfl⟩ : (0 : Int) = X ∧ false = K := ⟨by rw [← E.1]; exact HX.out.1, by rw [← E.2]; exact HX.out.2⟩
        have cI : (c.toNat : Int) < 48 := by omega
        clear E HX bad
        go_wp2_with fail
        exact bodyPost_ret (v := .tuple #[.int .i64 0, .bool false]) (by simp [results, Tryz.results78, go_sem]) rfl ⟨rfl, rfl⟩
      by_cases c2 : 57 < c.toNat
      · have WF : withinB 48 57 c = false := by unfold withinB; rw [decide_eq_false (p := c.toNat ≤ 57) (by omega), Bool.and_false]
        have E : numX l = 0 ∧ numK l = false := bad.out (allW_no (AF.out WF))
        obtain ⟨rfl, rfl⟩ : (0 : Int) = X ∧ false = K := ⟨by rw [← E.1]; exact HX.out.1, by rw [← E.2]; exact HX.out.2⟩
        have cI : ¬ (c.toNat : Int) < 48 := by omega
        have cI2 : (57 : Int) < (c.toNat : Int) := by omega
        clear E HX bad
        go_wp2_with fail
        exact bodyPost_ret (v := .tuple #[.int .i64 0, .bool false]) (by simp [results, Tryz.results78, go_sem]) rfl ⟨rfl, rfl⟩
      have WT : Hid (withinB 48 57 c = true) := by show _ = _; unfold withinB; simp; omega
      have cI : ¬ (c.toNat : Int) < 48 := by omega
      have cI2 : ¬ (57 : Int) < (c.toNat : Int) := by omega
      have hcI1 : (48 : Int) ≤ (c.toNat : Int) := by omega
      have hcI2 : (c.toNat : Int) ≤ 57 := by omega
      go_wp2_with fail
      go_round
      case rel => exact ⟨j + 1, by have := HL.out; omega, by go_num, by rw [NX.out]; go_num, by show _ = _; rw [AN.out, hA.out, WT.out]; rfl⟩
      case measure => have := HL.out; simp [intOf]; omega
    · have hJ : ¬ (j : Int) < (n : Int) := by omega
      obtain rfl : j = n := by omega
      have ET : l.take j = l := List.take_of_length_le (Nat.le_of_eq HN.out)
      rw [ET] at hA ⊢
      have E0 : numO l = some (dvl l) := by
        unfold numO allW
        rw [if_pos]
        refine ⟨by have := HN.out; have := H10.out; omega, ?_⟩
        rw [hA.out]
        have hne : l ≠ [] := by
          intro e
          have h3 := HN.out
          rw [e] at h3
          have := H10.out
          simp at h3
          omega
        cases l with
        | nil => exact absurd rfl hne
        | cons c r => rfl
      have E : Hid ((dvl l : Int) = X ∧ true = K) := ⟨by rw [← HX.out.1, numX, E0], by rw [← HX.out.2, numK, E0]; rfl⟩
      clear ET E0
      go_wp2_with fail
      exact bodyPost_ret (v := .tuple #[.int .i64 (dvl l : Nat), .bool true]) (by simp [results, Tryz.results78, go_sem]) rfl ⟨by rw [E.out.1, E.out.2], rfl⟩
theorem s_far (op : Nat) (w : World) : Calls Tryz.prog 79 #[.int .i64 op] w fun e w' => e = .returned (.bool (farB op)) ∧ w' = w := by
  have hi := fun w => spec_in (op : Int) 16 19 w
  have e : (decide ((16 : Int) ≤ op) && decide ((op : Int) ≤ 19)) = farB op := by
    unfold farB
    congr 1
    · exact decide_eq_decide.2 (by omega)
    · exact decide_eq_decide.2 (by omega)
  rw [e] at hi
  generalize farB op = b at *
  go_enter Tryz.func79, Tryz.ntmps79
  go_wp2_with (go_at_call 61; refine (hi _).mono ?_; rintro e x ⟨rfl, rfl⟩)
  go_ret
  exact ⟨rfl, rfl⟩
theorem way_num (p here : Nat) (h1 : p ≤ 1000000) (h2 : here ≤ 60000) : Int.tmod ((p : Int) - here + 65536) 65536 = ((p : Int) - here) % 65536 := by
  rw [Int.tmod_eq_emod_of_nonneg (by omega)]
  omega
theorem sign_get (x : Wb) (h : x ≠ []) : ∃ hh : 0 < (bq x).size, (bq x)[0]'hh = x.getD 0 0 := by
  have : 0 < (bq x).size := by rw [bq_size]; cases x with | nil => exact absurd rfl h | cons c r => simp
  exact ⟨this, bq_get x 0 this⟩
/-- What the model's loop over told words keeps. -/
structure Rm (w wr : World) (ls : List Lbl) (lb : Nat) (lv v : Value) (acc : List Int) : Prop where
  u : Nums wr w.heap.size v acc
  l : Lb wr lb lv ls
  b : Below w.heap.size w wr
theorem Rm.keep {w wr w' : World} {ls : List Lbl} {lb : Nat} {lv v : Value} {acc : List Int} (h : Rm w wr ls lb lv v acc) (b : Below wr.heap.size wr w') : Rm w w' ls lb lv v acc := ⟨h.u.keep b, h.l.keep b, on h.b b⟩
theorem Rm.push {w wr w' : World} {ls : List Lbl} {lb : Nat} {lv v v' : Value} {acc acc' : List Int} (h : Rm w wr ls lb lv v acc) (hG : wr.grownBy w' v.ownBlock) (hN : Nums w' w.heap.size v' acc') (hlv : ∀ k, lv.ownBlock = some k → k < w.heap.size) : Rm w w' ls lb lv v' acc' := by
  refine ⟨hN, World.ownsRow.kept h.l hG ?_, h.b.grown hG h.b.size (fun k e => (h.u.lt k e).1)⟩
  cases e : lv.ownBlock with
  | none => exact .inl rfl
  | some g =>
    refine .inr fun e2 => ?_
    have := hlv g e
    have := (h.u.lt g e2.symm).1
    omega
set_option maxRecDepth 20000 in
set_option maxHeartbeats 8000000 in
theorem s_numbers (a : Option Addr) (n c : Nat) (ws : List Wb) (op : Nat) (lv : Value) (lb : Nat) (ls : List Lbl) (here : Nat) (w : World) (hL : Lb w lb lv ls) (hls : ls.length ≤ 1048576) (hR : Rs w a n c ws) (h0 : 0 < n) (hg : ∀ y, a = some y → ∃ g, y = ⟨g, 0, none⟩) (hn : n ≤ 100000) (hx : ∀ i, i < ws.length → (ws.getD i []).length ≤ 1500 ∧ ws.getD i [] ≠ []) (hh : here ≤ 1000) (hP : ∀ x p, findL ls x = some p → p ≤ 1000000) :
    Calls Tryz.prog 57 #[.slice a n c, .int .i64 op, lv, .int .i64 here] w fun e w' => ∃ va vl vc, e = .returned (.tuple #[.slice va vl vc, .int .i64 (argsA ls here (farB op) (ws.drop 1) []).1]) ∧ ((argsA ls here (farB op) (ws.drop 1) []).1 = 0 → Nums w' w.heap.size (.slice va vl vc) (argsA ls here (farB op) (ws.drop 1) []).2) ∧ Below w.heap.size w w' := by
  obtain ⟨la, lc, rfl, _⟩ := hL.shape
  obtain ⟨ll, hll⟩ : ∃ ll, ls.length = ll := ⟨_, rfl⟩
  rw [hll] at hL ⊢
  clear hll
  obtain ⟨A, hA⟩ : ∃ A, argsA ls here (farB op) (ws.drop 1) [] = A := ⟨_, rfl⟩
  rw [hA]
  have HA : Hid (argsA ls here (farB op) ((ws.drop 1).drop 0) [] = A) := hA
  have HN : Hid (n = ws.length ∧ n ≤ 100000 ∧ 0 < n) := ⟨hR.len, hn, h0⟩
  have hnI : (n : Int) ≤ 100000 := by omega
  have hnI1 : (1 : Int) ≤ (n : Int) := by omega
  have HRs : Hid (Rs w a n c ws) := hR
  have HX : Hid (∀ i, i < ws.length → (ws.getD i []).length ≤ 1500 ∧ ws.getD i [] ≠ []) := hx
  have HG : Hid (∀ y, a = some y → ∃ g, y = ⟨g, 0, none⟩) := hg
  have HPP : Hid (∀ x p, findL ls x = some p → p ≤ 1000000) := hP
  have HLs : Hid (ls.length ≤ 1048576) := hls
  have HLK : Hid (∀ k, (Value.slice la ll lc).ownBlock = some k → k < w.heap.size) := fun k e => (hL.lt k e).2
  have HH : Hid (here ≤ 1000) := hh
  have hhI : (here : Int) ≤ 1000 := by omega
  have TD : Hid (∀ j, (ws.drop 1).getD j [] = ws.getD (j + 1) []) := fun j => by simp [List.getD]
  have TL : Hid ((ws.drop 1).length + 1 = n) := by show _ = _; rw [List.length_drop]; have := HN.out; omega
  generalize ws.drop 1 = tl at *
  have R0 : Hid (Rm w (w.alloc (.cells #[] 2)) ls lb (.slice la ll lc) (.slice (some ⟨w.heap.size, 0, none⟩) 0 0) []) := ⟨nums_emptyA w _ (Nat.le_refl _), hL.keep (al (Below.refl _ _) _), al (Below.refl _ _) _⟩
  clear hA hR hx hg hP hh hn hL hls h0
  go_enter Tryz.func57, Tryz.ntmps57
  go_wp2_with fail
  generalize w.alloc (.cells #[] 2) = W0 at *
  go_loopw [10, 11, 12] (fun u k i wr => ∃ (j : Nat) (acc : List Int), j + 1 ≤ n ∧ i = .int .i64 ((j : Int) + 1) ∧ acc.length ≤ j ∧ Rm w wr ls lb (.slice la ll lc) u acc ∧ (k = .int .i64 0 ∧ Hid (argsA ls here (farB op) (tl.drop j) acc = A) ∨ k = .int .i64 4 ∧ j + 1 = n ∧ Hid (A.1 = 4))) (fun _ _ i _ => n - (intOf i).toNat)
  case atStart => exact ⟨0, [], by have := HN.out; omega, rfl, by simp, R0.out, .inl ⟨rfl, HA⟩⟩
  case round =>
    clear R0 HA
    obtain ⟨j, acc, hj, rfl, hal, hR, hk⟩ := hrel
    obtain ⟨av, cv, rfl, _⟩ := hR.u.shape
    obtain ⟨lv, hlv⟩ : ∃ lv, acc.length = lv := ⟨_, rfl⟩
    have AL : Hid (acc.length = lv ∧ lv ≤ j ∧ lv ≤ 100000) := ⟨hlv, by omega, by omega⟩
    rw [hlv] at hR ⊢
    have HR : Hid (Rm w wr ls lb (.slice la ll lc) (.slice av lv cv) acc) := hR
    clear hlv hal
    by_cases hlt : j + 1 < n
    · rcases hk with ⟨rfl, hT⟩ | ⟨_, h4, _⟩
      case inr => omega
      have hJ : (j : Int) + 1 < (n : Int) := by omega
      have HL : Hid (j + 1 < n) := hlt
      obtain ⟨y, rfl, cx⟩ := (HRs.out.stay hR.b).at (j + 1) hlt
      obtain ⟨g, rfl⟩ := HG.out y rfl
      rw [add_plainL] at cx
      have RT0 : Hid (A = _) := hT.out.symm.trans (argsA_at ls here (farB op) tl j acc (by have := TL.out; omega))
      obtain ⟨q1, q2⟩ := HX.out (j + 1) (by have := HN.out; omega)
      obtain ⟨x, hx⟩ : ∃ x, ws.getD (j + 1) [] = x := ⟨_, rfl⟩
      rw [hx] at cx q1 q2
      rw [TD.out j, hx] at RT0
      have XL : Hid (x.length ≤ 1048576) := by show _ ≤ _; omega
      have XN : Hid (x ≠ []) := q2
      have gl : g < wr.heap.size := block_of_cell cx
      have FN := fun w => s_number x w XL.out
      clear hx hR hT hlt q1 q2 hj
      cases hnum : numO x with
      | some num =>
        have hn10 := numO_lt hnum
        have e1 : numX x = (num : Int) := by simp [numX, hnum]
        have e2 : numK x = true := by simp [numK, hnum]
        rw [e1, e2] at FN
        have RE : Hid (argsA ls here (farB op) (tl.drop (j + 1)) (acc ++ [(num : Int)]) = A) := by
          have h := RT0.out
          have ea : argO ls here (farB op) (decide (j + 1 = tl.length)) x = (0, (num : Int)) := by rw [argO, hnum]; rfl
          rw [ea, if_pos rfl] at h
          exact h.symm
        clear RT0 hnum e1 e2 hn10
        go_wp2_with (first
          | (go_at_call 78; refine (FN _).mono ?_; rintro e wr ⟨rfl, rfl⟩)
          | (at_builtin; refine wp_appA _ rfl _ _ rfl w.heap.size _ acc rfl (HR.out.u.keep (al (Below.refl _ _) _)) wr.heap.size 1 1 [(num : Int)] rfl rfl (one_atA (cell_new rfl)) (by have := AL.out; omega) (by have := HR.out.b.size; simp; omega) ?_; intro v' w' hN' hG'; have RN : Hid (Rm w w' ls lb (.slice la ll lc) v' (acc ++ [(num : Int)])) := ((HR.out.keep (al (Below.refl _ _) _)).push hG' hN' HLK.out); clear hN' hG'))
        go_roundw
        case rel => exact ⟨j + 1, acc ++ [(num : Int)], by have := HL.out; omega, by go_num, by have := AL.out; simp; omega, RN.out, .inl ⟨rfl, RE⟩⟩
        case measure => have := HL.out; simp [intOf]; omega
      | none =>
        have e1 : numX x = 0 := by simp [numX, hnum]
        have e2 : numK x = false := by simp [numK, hnum]
        rw [e1, e2] at FN
        have AO : Hid (argO ls here (farB op) (decide (j + 1 = tl.length)) x = if (wayB (farB op) (decide (j + 1 = tl.length)) x && nameB (x.drop 1)) = true then wayO here (findL ls (x.drop 1)) else (5, 0)) := by show _ = _; rw [argO, hnum]; rfl
        have FF := fun w => s_far op w
        have FM := fun w => s_name (x.drop 1) w (by have := XL.out; simp; omega)
        have FL := fun w h => s_find (.slice la ll lc) ls (x.drop 1) lb w h HLs.out
        obtain ⟨hsz, hsg⟩ := sign_get x XN.out
        have hct := cut_tail x
        have hzx : (bq x).size = x.length := bq_size x
        have hx1 : (1 : Int) ≤ (x.length : Int) := by have := hzx; omega
        have hxm : (x.length : Int) ≤ 1048576 := by have := XL.out; omega
        clear hnum e1 e2
        by_cases hlast : j + 2 = n
        case neg =>
          have hlB : ((j : Int) + 1 == (n : Int) - 1) = false := by rw [beq_eq_false_iff_ne]; omega
          have hlI : ¬ (j : Int) + 1 = (n : Int) - 1 := by omega
          have ea : argO ls here (farB op) (decide (j + 1 = tl.length)) x = (5, 0) := by rw [AO.out, if_neg]; unfold wayB; rw [decide_eq_false (by have := TL.out; omega)]; simp
          clear AO FF FM FL hsg hct hx1 hlast
          have RE : Hid (A = (5, [])) := by
            have h := RT0.out
            rw [ea, if_neg (by decide)] at h
            exact h
          clear RT0 ea
          go_wp2_with (first | (go_at_call 78; refine (FN _).mono ?_; rintro e wr ⟨rfl, rfl⟩))
          exact bodyPost_ret (v := .tuple #[.slice none 0 0, .int .i64 5]) (by simp [results, Tryz.results57, go_sem]) rfl ⟨_, _, _, by rw [RE.out], fun h => absurd h (by rw [RE.out]; decide), HR.out.b⟩
        have DL : decide (j + 1 = tl.length) = true := decide_eq_true (by have := TL.out; omega)
        have hlB : ((j : Int) + 1 == (n : Int) - 1) = true := by rw [beq_iff_eq]; omega
        by_cases hfar : farB op = true
        case neg =>
          have hfar : farB op = false := by simpa using hfar
          rw [hfar] at FF
          have ea : argO ls here (farB op) (decide (j + 1 = tl.length)) x = (5, 0) := by rw [AO.out, if_neg]; unfold wayB; rw [hfar]; simp
          clear AO FM FL hsg hct hx1 hlast DL hfar
          have RE : Hid (A = (5, [])) := by
            have h := RT0.out
            rw [ea, if_neg (by decide)] at h
            exact h
          clear RT0 ea
          go_wp2_with (first | (go_at_call 78; refine (FN _).mono ?_; rintro e wr ⟨rfl, rfl⟩) | (go_at_call 79; refine (FF _).mono ?_; rintro e wr ⟨rfl, rfl⟩))
          exact bodyPost_ret (v := .tuple #[.slice none 0 0, .int .i64 5]) (by simp [results, Tryz.results57, go_sem]) rfl ⟨_, _, _, by rw [RE.out], fun h => absurd h (by rw [RE.out]; decide), HR.out.b⟩
        rw [hfar] at FF
        obtain ⟨c0, hc0⟩ : ∃ c0, x.getD 0 0 = c0 := ⟨_, rfl⟩
        rw [hc0] at hsg
        by_cases hs64 : c0 = 64
        case neg =>
          have ea : argO ls here (farB op) (decide (j + 1 = tl.length)) x = (5, 0) := by rw [AO.out, if_neg]; unfold wayB; rw [hc0, decide_eq_false hs64]; simp
          have hcN : ¬ c0.toNat = 64 := fun h => hs64 (UInt8.toNat_inj.1 h)
          have hcI : ((c0.toNat : Int) == 64) = false := by rw [beq_eq_false_iff_ne]; omega
          clear AO FM FL hct hlast DL hfar hc0 hs64
          have RE : Hid (A = (5, [])) := by
            have h := RT0.out
            rw [ea, if_neg (by decide)] at h
            exact h
          clear RT0 ea
          go_wp2_with (first | (go_at_call 78; refine (FN _).mono ?_; rintro e wr ⟨rfl, rfl⟩) | (go_at_call 79; refine (FF _).mono ?_; rintro e wr ⟨rfl, rfl⟩))
          exact bodyPost_ret (v := .tuple #[.slice none 0 0, .int .i64 5]) (by simp [results, Tryz.results57, go_sem]) rfl ⟨_, _, _, by rw [RE.out], fun h => absurd h (by rw [RE.out]; decide), HR.out.b⟩
        subst hs64
        cases hnm : nameB (x.drop 1)
        case false =>
          rw [hnm] at FM
          have ea : argO ls here (farB op) (decide (j + 1 = tl.length)) x = (5, 0) := by rw [AO.out, if_neg]; rw [hnm]; simp
          clear AO FL hlast DL hfar hc0 hnm
          generalize bq (x.drop 1) = X1 at *
          have RE : Hid (A = (5, [])) := by
            have h := RT0.out
            rw [ea, if_neg (by decide)] at h
            exact h
          clear RT0 ea
          go_wp2_with (first | (go_at_call 78; refine (FN _).mono ?_; rintro e wr ⟨rfl, rfl⟩) | (go_at_call 79; refine (FF _).mono ?_; rintro e wr ⟨rfl, rfl⟩) | (go_at_call 54; refine (FM _).mono ?_; rintro e wr ⟨rfl, rfl⟩))
          exact bodyPost_ret (v := .tuple #[.slice none 0 0, .int .i64 5]) (by simp [results, Tryz.results57, go_sem]) rfl ⟨_, _, _, by rw [RE.out], fun h => absurd h (by rw [RE.out]; decide), HR.out.b⟩
        rw [hnm] at FM
        have ea : argO ls here (farB op) (decide (j + 1 = tl.length)) x = wayO here (findL ls (x.drop 1)) := by rw [AO.out, if_pos]; unfold wayB; rw [hfar, DL, hc0, hnm]; rfl
        clear AO hfar hc0 hnm DL
        cases hfd : findL ls (x.drop 1) with
        | some p =>
          have hp := HPP.out _ p hfd
          rw [hfd] at FL ea
          have FL : ∀ w, Lb w lb (.slice la ll lc) ls → Calls Tryz.prog 55 #[.slice la ll lc, .string (bq (x.drop 1))] w fun e w' => e = .returned (.int .i64 (p : Nat)) ∧ w' = w := FL
          obtain ⟨z, hz⟩ : ∃ z, ((p : Int) - here) % 65536 = z := ⟨_, rfl⟩
          have hzt := way_num p here hp (by have := HH.out; omega)
          rw [hz] at hzt
          have RE : Hid (argsA ls here (farB op) (tl.drop (j + 1)) (acc ++ [z]) = A) := by
            have h := RT0.out
            rw [ea, wayO, if_pos rfl, hz] at h
            exact h.symm
          have hpI : (p : Int) ≤ 1000000 := by omega
          have hze : ((p : Int) - here + 65536) % 65536 = z := by rw [← hz]; omega
          clear RT0 ea hfd hp hz hlast
          generalize bq (x.drop 1) = X1 at *
          go_wp2_with (first | (go_at_call 78; refine (FN _).mono ?_; rintro e wr ⟨rfl, rfl⟩) | (go_at_call 79; refine (FF _).mono ?_; rintro e wr ⟨rfl, rfl⟩) | (go_at_call 54; refine (FM _).mono ?_; rintro e wr ⟨rfl, rfl⟩) | (go_at_call 55; refine (FL _ HR.out.l).mono ?_; rintro e wr ⟨rfl, rfl⟩) | (at_builtin; refine wp_appA _ rfl _ _ rfl w.heap.size _ acc rfl (HR.out.u.keep (al (Below.refl _ _) _)) wr.heap.size 1 1 [z] rfl rfl (one_atA (cell_new rfl)) (by have := AL.out; omega) (by have := HR.out.b.size; simp; omega) ?_; intro v' w' hN' hG'; have RN : Hid (Rm w w' ls lb (.slice la ll lc) v' (acc ++ [z])) := ((HR.out.keep (al (Below.refl _ _) _)).push hG' hN' HLK.out); clear hN' hG'))
          go_roundw
          case rel => exact ⟨j + 1, acc ++ [z], by have := HL.out; omega, by go_num, by have := AL.out; simp; omega, RN.out, .inl ⟨rfl, RE⟩⟩
          case measure => have := HL.out; simp [intOf]; omega
        | none =>
          rw [hfd] at FL ea
          have FL : ∀ w, Lb w lb (.slice la ll lc) ls → Calls Tryz.prog 55 #[.slice la ll lc, .string (bq (x.drop 1))] w fun e w' => e = .returned (.int .i64 (-1)) ∧ w' = w := FL
          have RE : Hid (A.1 = 4) := by
            have h := RT0.out
            rw [ea, wayO, if_neg (by decide)] at h
            show _ = _
            rw [h]
          obtain ⟨z, hz⟩ : ∃ z : Int, (-1 - (here : Int) + 65536) % 65536 = z := ⟨_, rfl⟩
          have HLL : Hid (j + 2 = n) := hlast
          clear RT0 ea hfd hlast
          generalize bq (x.drop 1) = X1 at *
          go_wp2_with (first | (go_at_call 78; refine (FN _).mono ?_; rintro e wr ⟨rfl, rfl⟩) | (go_at_call 79; refine (FF _).mono ?_; rintro e wr ⟨rfl, rfl⟩) | (go_at_call 54; refine (FM _).mono ?_; rintro e wr ⟨rfl, rfl⟩) | (go_at_call 55; refine (FL _ HR.out.l).mono ?_; rintro e wr ⟨rfl, rfl⟩) | (at_builtin; refine wp_appA _ rfl _ _ rfl w.heap.size _ acc rfl (HR.out.u.keep (al (Below.refl _ _) _)) wr.heap.size 1 1 [z] rfl rfl (one_atA (cell_new rfl)) (by have := AL.out; omega) (by have := HR.out.b.size; simp; omega) ?_; intro v' w' hN' hG'; have RN : Hid (Rm w w' ls lb (.slice la ll lc) v' (acc ++ [z])) := ((HR.out.keep (al (Below.refl _ _) _)).push hG' hN' HLK.out); clear hN' hG'))
          go_roundw
          case rel => exact ⟨j + 1, acc ++ [z], by have := HL.out; omega, by go_num, by have := AL.out; simp; omega, RN.out, .inr ⟨rfl, by have := HLL.out; omega, RE⟩⟩
          case measure => have := HL.out; simp [intOf]; omega
    · have hJ : ¬ (j : Int) + 1 < (n : Int) := by omega
      rcases hk with ⟨rfl, hT⟩ | ⟨rfl, h4, hT⟩
      · have RE : Hid (A = (0, acc)) := by
          show _ = _
          rw [← hT.out, List.drop_eq_nil_of_le (by have := TL.out; omega), argsA]
        clear hT hR
        go_wp2_with fail
        exact bodyPost_ret (v := .tuple #[.slice av lv cv, .int .i64 0]) (by simp [results, Tryz.results57, go_sem]) rfl ⟨_, _, _, by rw [RE.out], fun _ => by rw [RE.out]; exact HR.out.u, HR.out.b⟩
      · have RE : Hid (A.1 = 4) := hT
        clear hT hR
        go_wp2_with fail
        exact bodyPost_ret (v := .tuple #[.slice av lv cv, .int .i64 4]) (by simp [results, Tryz.results57, go_sem]) rfl ⟨_, _, _, by rw [RE.out], fun h => absurd h (by rw [RE.out]; decide), HR.out.b⟩
end Go.Proofs.YtdmlejfopmimfaaGreatDoor
