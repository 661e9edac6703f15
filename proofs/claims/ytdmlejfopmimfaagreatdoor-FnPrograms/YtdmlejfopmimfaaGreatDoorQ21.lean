/- Texts of this seat, joined. -/
import Derived.Test.YtdmlejfopmimfaaGreatDoorQ17
namespace Go.Proofs.YtdmlejfopmimfaaGreatDoor
open Go.RowKit
set_option linter.unusedVariables false

theorem wp_scope_three {P : Program} {a : Act} {w : World} {Q : Exit → Act → World → Prop} {c R0 R1 R2 : Code} (J : Nat → Act → World → Prop) (μ : Nat → Act → World → Nat) (h0 : findLabel c 0 = some R0) (h1 : findLabel c 1 = some R1) (h2 : findLabel c 2 = some R2)
    (first : c.wp P (jumps (· ≤ 2) J Q) a w)
    (p0 : ∀ a w, J 0 a w → R0.wp P (jumps (· ≤ 2) (fun l' a' w' => J l' a' w' ∧ μ l' a' w' < μ 0 a w) Q) a w)
    (p1 : ∀ a w, J 1 a w → R1.wp P (jumps (· ≤ 2) (fun l' a' w' => J l' a' w' ∧ μ l' a' w' < μ 1 a w) Q) a w)
    (p2 : ∀ a w, J 2 a w → R2.wp P (jumps (· ≤ 2) (fun l' a' w' => J l' a' w' ∧ μ l' a' w' < μ 2 a w) Q) a w) : (Code.scope c).wp P Q a w := by
  refine wp_scope_many (fun l => if l = 0 then R0 else if l = 1 then R1 else R2) (· ≤ 2) J μ (fun l hl => ?_) first (fun l a w hl hJ => ?_)
  · have : l = 0 ∨ l = 1 ∨ l = 2 := by omega
    rcases this with rfl | rfl | rfl
    · exact h0
    · exact h1
    · exact h2
  · have : l = 0 ∨ l = 1 ∨ l = 2 := by omega
    rcases this with rfl | rfl | rfl
    · exact p0 a w hJ
    · exact p1 a w hJ
    · exact p2 a w hJ

/-- What is left of the lines, from a line's start. -/
def Rem0 (tx : Wb) (p : Nat) : List (List Wb) := if tx.drop p = [] then [] else cutW (tx.drop p) [] []
def seg (tx : Wb) (f p : Nat) : Wb := (tx.drop f).take (p - f)
theorem drop_at (tx : Wb) (p : Nat) (h : p < tx.length) : tx.drop p = tx.getD p 0 :: tx.drop (p + 1) := by
  rw [List.drop_eq_getElem_cons h, List.getD, List.getElem?_eq_getElem h]
  rfl
theorem fin_nil (ws : List Wb) : fin ws [] = ws := rfl
theorem rem_in (tx : Wb) (p : Nat) (h : p < tx.length) : Rem0 tx p = cutW (tx.drop p) [] [] := by
  unfold Rem0
  rw [if_neg (by rw [drop_at tx p h]; simp)]
theorem rem_end (tx : Wb) (p : Nat) (h : tx.length ≤ p) : Rem0 tx p = [] := by
  unfold Rem0
  rw [if_pos (List.drop_eq_nil_of_le h)]
theorem st_10 (tx : Wb) (p : Nat) (ws : List Wb) (h : p < tx.length) (hc : tx.getD p 0 = 10) : cutW (tx.drop p) ws [] = ws :: Rem0 tx (p + 1) := by
  rw [drop_at tx p h, cutW, hc, if_pos rfl, fin_nil]
  rfl
theorem st_end (tx : Wb) (ws : List Wb) : cutW (tx.drop tx.length) ws [] = ws :: Rem0 tx (tx.length + 1) := by
  rw [rem_end tx _ (by omega), List.drop_length, cutW, fin_nil]
theorem st_32 (tx : Wb) (p : Nat) (ws : List Wb) (h : p < tx.length) (hc : tx.getD p 0 = 32) : cutW (tx.drop p) ws [] = cutW (tx.drop (p + 1)) ws [] := by
  rw [drop_at tx p h, cutW, hc, if_neg (by decide), if_pos rfl, fin_nil]
theorem st_ch (tx : Wb) (p : Nat) (ws : List Wb) (cur : Wb) (h : p < tx.length) (h1 : ¬ tx.getD p 0 = 10) (h2 : ¬ tx.getD p 0 = 32) : cutW (tx.drop p) ws cur = cutW (tx.drop (p + 1)) ws (cur ++ [tx.getD p 0]) := by
  rw [drop_at tx p h, cutW, if_neg h1, if_neg h2]
theorem st_we (tx : Wb) (p : Nat) (ws : List Wb) (cur : Wb) (hc : cur ≠ []) (h : tx.length ≤ p ∨ p < tx.length ∧ (tx.getD p 0 = 10 ∨ tx.getD p 0 = 32)) : cutW (tx.drop p) ws cur = cutW (tx.drop p) (ws ++ [cur]) [] := by
  have hf : fin ws cur = ws ++ [cur] := by unfold fin; rw [if_neg hc]
  rcases h with h | ⟨h, hs⟩
  · rw [List.drop_eq_nil_of_le h, cutW, cutW, hf, fin_nil]
  · rw [drop_at tx p h, cutW, cutW, hf, fin_nil]
    rcases hs with hs | hs
    · rw [if_pos hs, if_pos hs]
    · rw [if_neg (by rw [hs]; decide), if_pos hs, if_neg (by rw [hs]; decide), if_pos hs]
theorem seg_self (tx : Wb) (p : Nat) : seg tx p p = [] := by unfold seg; simp
theorem seg_next (tx : Wb) (f p : Nat) (hf : f ≤ p) (h : p < tx.length) : seg tx f (p + 1) = seg tx f p ++ [tx.getD p 0] := by
  unfold seg
  rw [show p + 1 - f = (p - f) + 1 by omega, List.take_add_one, List.getElem?_drop, show f + (p - f) = p by omega, List.getD, List.getElem?_eq_getElem h]
  rfl
theorem seg_ne (tx : Wb) (f p : Nat) (hf : f < p) (h : p ≤ tx.length) : seg tx f p ≠ [] := by
  intro e
  have := congrArg List.length e
  unfold seg at this
  simp at this
  omega
theorem bq_cut (tx : Wb) (f p : Nat) : (bq tx).extract f p = bq (seg tx f p) := by
  apply ByteArray.ext
  rw [ByteArray.data_extract]
  simp [bq, seg, List.extract_eq_take_drop]

def Frx (s v u : Value) (p f : Nat) (a : Act) : Prop := ∃ t7 t8 t9 t10 t11 t12 t13 t14 t15 t16 t17 t18 t19 t20 t21 t22 t23 t24 t25 t26 t27 t28 t29 t30 t31 t32 t33 t34 t35 t36 t37 t38 t39 t40 t41 t42 t43 t44 t45 t46 t47 t48 t49 t50 t51 t52 t53 t54 t55 t56 t57 t58 t59 : Value, a = { tmps := #[s, undef, .slice none 0 0, v, u, .int .i64 p, .int .i64 f, t7, t8, t9, t10, t11, t12, t13, t14, t15, t16, t17, t18, t19, t20, t21, t22, t23, t24, t25, t26, t27, t28, t29, t30, t31, t32, t33, t34, t35, t36, t37, t38, t39, t40, t41, t42, t43, t44, t45, t46, t47, t48, t49, t50, t51, t52, t53, t54, t55, t56, t57, t58, t59], defers := [] }
/-- What holds at each label. -/
def Jc (tx : Wb) (w0 : World) : Nat → Act → World → Prop
  | 0, a, w => ∃ (v u : Value) (p f : Nat) (L : List (List Wb)) (hi : Nat), Frx (.string (bq tx)) v u p f a ∧ Li w w0.heap.size hi v L ∧ hi ≤ w.heap.size ∧ w0.heap.size ≤ hi ∧ L ++ Rem0 tx p = cutT tx ∧ Below w0.heap.size w0 w ∧ p ≤ tx.length + 1 ∧ L.length ≤ p
  | 1, a, w => ∃ (v u : Value) (p f : Nat) (L : List (List Wb)) (ws : List Wb) (hi : Nat), Frx (.string (bq tx)) v u p f a ∧ Li w w0.heap.size hi v L ∧ Os w hi u ws ∧ hi ≤ w.heap.size ∧ w0.heap.size ≤ hi ∧ L ++ cutW (tx.drop p) ws [] = cutT tx ∧ Below w0.heap.size w0 w ∧ p ≤ tx.length ∧ L.length ≤ p ∧ ws.length ≤ p
  | _, a, w => ∃ (v u : Value) (p f : Nat) (L : List (List Wb)) (ws : List Wb) (hi : Nat), Frx (.string (bq tx)) v u p f a ∧ Li w w0.heap.size hi v L ∧ Os w hi u ws ∧ hi ≤ w.heap.size ∧ w0.heap.size ≤ hi ∧ L ++ cutW (tx.drop p) ws (seg tx f p) = cutT tx ∧ Below w0.heap.size w0 w ∧ p ≤ tx.length ∧ f < p ∧ L.length ≤ p ∧ ws.length ≤ f
def mu (n : Nat) (l : Nat) (a : Act) (w : World) : Nat := 3 * (n + 2 - (intOf (a.tmps.getD 5 undef)).toNat) + (if l = 2 then 1 else 0)

set_option maxHeartbeats 16000000 in
theorem i_cutLines (tx : Wb) (w : World) (hl : tx.length ≤ 1500) :
    Calls Tryz.prog 44 #[.string (bq tx)] w fun e w' => ∃ v hi, e = .returned v ∧ Li w' w.heap.size hi v (cutT tx) ∧ Below w.heap.size w w' := by
  obtain ⟨n, hn⟩ : ∃ n, tx.length = n := ⟨_, rfl⟩
  have hz : (bq tx).size = n := by rw [bq_size]; exact hn
  have HN : Hid (tx.length = n ∧ n ≤ 1500) := ⟨hn, by omega⟩
  have hnI : (n : Int) ≤ 1500 := by omega
  have GT : Hid (∀ j (h : j < (bq tx).size), (bq tx)[j]'h = tx.getD j 0) := bq_get tx
  have CUT : Hid (∀ f p, (bq tx).extract f p = bq (seg tx f p)) := bq_cut tx
  clear hn hl
  go_enter Tryz.func44, Tryz.ntmps44
  go_wp2_with fail
  refine wp_scope_three (Jc tx w) (mu n) rfl rfl rfl ?_ ?_ ?_ ?_
  · go_wp2_with fail
    go_step3
    by_cases hpn : n = 0
    · have RE : Hid (cutT tx = []) := by show _ = _; unfold cutT; rw [if_pos (List.eq_nil_of_length_eq_zero (by have := HN.out; omega))]
      have hpI : (n : Int) ≤ 0 := by omega
      go_wp2_with fail
      simp only [jumps]
      go_ret
      exact ⟨_, 0, rfl, by rw [RE.out]; exact Li.nil _ _ _, Below.refl _ _⟩
    obtain ⟨p, hp0⟩ : ∃ p : Nat, p = 0 := ⟨0, rfl⟩
    obtain ⟨hi, hhi⟩ : ∃ hi, w.heap.size = hi := ⟨_, rfl⟩
    obtain ⟨L, hLn⟩ : ∃ L : List (List Wb), L = [] := ⟨[], rfl⟩
    have hpl : 0 < n := by omega
    have hpI : ((0 : Int) == (n : Int)) = false := by rw [beq_eq_false_iff_ne]; omega
    have hpJ : 0 < (n : Int) := by omega
    have HT : Hid ([] ++ cutW (tx.drop 0) [] [] = cutT tx) := by show _ = _; unfold cutT; rw [if_neg (fun e => by have := HN.out; rw [e] at this; simp at this; omega)]; rfl
    have HW : Hid (Os w w.heap.size (.slice none 0 0) []) := Os.nil _ _
    have HL : Hid (Li w w.heap.size w.heap.size (.slice none 0 0) []) := Li.nil _ _ _
    have HB : Hid (Below w.heap.size w w) := Below.refl _ _
    have HH : Hid (w.heap.size ≤ w.heap.size ∧ w.heap.size ≤ w.heap.size) := ⟨Nat.le_refl _, Nat.le_refl _⟩
    have HP : Hid (0 ≤ n + 1 ∧ ([] : List (List Wb)).length ≤ 0) := ⟨by omega, by simp⟩
    have hnW : ([] : List Wb).length ≤ 0 := by simp
    clear hp0 hhi hLn hi L p
    go_upto_region 6 with fail
    go_wp2_with fail
    go_step3
    have hg := GT.out 0 (by omega)
    obtain ⟨c, hc⟩ : ∃ c, tx.getD 0 0 = c := ⟨_, rfl⟩
    rw [hc] at hg
    have HC : Hid (tx.getD 0 0 = c) := hc
    clear hc
    by_cases h10 : c = 10
    · subst h10
      go_upto_region 9 with (at_builtin; refine wp_pushLine _ rfl _ _ rfl w.heap.size w.heap.size w.heap.size _ [] rfl (HL.out.keep (al (Below.refl _ _) _)) _ (.slice none 0 0) [] rfl (cell_new rfl) ((HW.out.mono HH.out.2).keep (al (Below.refl _ _) _)) (fun k e => (HW.out.lt k e).2) HH.out.1 (by have := HN.out; have := HP.out; omega) (by have := HB.out.size; simp <;> omega) ?_; intro v2 w2 hL2 hG2)
      have L2 : Hid (Li w2 w.heap.size w.heap.size v2 ([] ++ [[]])) := hL2
      have B2 : Hid (Below w.heap.size w w2) := (al HB.out _).grown hG2 (by have := HB.out.size; simp <;> omega) (fun k e => by obtain ⟨vs, h1, _⟩ := HL.out; exact (h1.lt k e).1)
      have Z2 : Hid (w.heap.size ≤ w2.heap.size) := by have h := hG2.size; rw [World.size_alloc] at h; show _ ≤ _; omega
      clear hL2 hG2
      go_wp2_with fail
      go_step3
      exact (show (_ ∧ _) from ⟨by decide, by unfold Jc; exact ⟨v2, _, 0 + 1, 0, [] ++ [[]], w.heap.size, ⟨_, _, _, _, _, _, _, _, _, _, _, _, _, _, _, _, _, _, _, _, _, _, _, _, _, _, _, _, _, _, _, _, _, _, _, _, _, _, _, _, _, _, _, _, _, _, _, _, _, _, _, _, _, rfl⟩, L2.out, Z2.out, by have := HB.out.size; omega, by rw [← HT.out, st_10 tx 0 [] (by have := HN.out; omega) HC.out, List.append_assoc]; rfl, B2.out, by have := HN.out; have := HP.out; omega, by have := HP.out; simp <;> omega⟩⟩)
    have e10 : (c.toNat == 10) = false := by rw [beq_eq_false_iff_ne]; intro e; exact h10 (UInt8.toNat_inj.1 e)
    have f10 : ¬ c.toNat = 10 := fun e => h10 (UInt8.toNat_inj.1 e)
    by_cases h32 : c = 32
    · subst h32
      go_wp2_with fail
      go_step3
      exact (show (_ ∧ _) from ⟨by decide, by unfold Jc; exact ⟨_, _, 0 + 1, _, [], [], w.heap.size, ⟨_, _, _, _, _, _, _, _, _, _, _, _, _, _, _, _, _, _, _, _, _, _, _, _, _, _, _, _, _, _, _, _, _, _, _, _, _, _, _, _, _, _, _, _, _, _, _, _, _, _, _, _, _, rfl⟩, HL.out, HW.out, HH.out.1, HH.out.2, by rw [← HT.out, st_32 tx 0 [] (by have := HN.out; omega) HC.out], HB.out, by have := HN.out; omega, by have := HP.out; omega, by omega⟩⟩)
    have e32 : (c.toNat == 32) = false := by rw [beq_eq_false_iff_ne]; intro e; exact h32 (UInt8.toNat_inj.1 e)
    have f32 : ¬ c.toNat = 32 := fun e => h32 (UInt8.toNat_inj.1 e)
    have d10 : ((c.toNat : Int) != 10) = true := by rw [bne_iff_ne]; omega
    have d32 : ((c.toNat : Int) != 32) = true := by rw [bne_iff_ne]; omega
    go_wp2_with fail
    go_step3
    go_wp2_with fail
    go_step3
    exact (show (_ ∧ _) from ⟨by decide, by unfold Jc; exact ⟨_, _, 0 + 1, 0, [], [], w.heap.size, ⟨_, _, _, _, _, _, _, _, _, _, _, _, _, _, _, _, _, _, _, _, _, _, _, _, _, _, _, _, _, _, _, _, _, _, _, _, _, _, _, _, _, _, _, _, _, _, _, _, _, _, _, _, _, rfl⟩, HL.out, HW.out, HH.out.1, HH.out.2, by rw [← HT.out, st_ch tx 0 [] [] (by have := HN.out; omega) (by rw [HC.out]; exact h10) (by rw [HC.out]; exact h32), seg_next tx 0 0 (Nat.le_refl _) (by have := HN.out; omega), seg_self], HB.out, by have := HN.out; omega, by omega, by have := HP.out; omega, by omega⟩⟩)
  · rintro a w1 ⟨v, u, p, f, L, hi, ⟨t7, t8, t9, t10, t11, t12, t13, t14, t15, t16, t17, t18, t19, t20, t21, t22, t23, t24, t25, t26, t27, t28, t29, t30, t31, t32, t33, t34, t35, t36, t37, t38, t39, t40, t41, t42, t43, t44, t45, t46, t47, t48, t49, t50, t51, t52, t53, t54, t55, t56, t57, t58, t59, rfl⟩, hL, hh, hb, hT, hB, hp, hnL⟩
    obtain ⟨av, cv, rfl⟩ := hL.shape
    obtain ⟨lv, hlv⟩ : ∃ lv, L.length = lv := ⟨_, rfl⟩
    rw [hlv] at hL ⊢
    clear hlv
    have HL : Hid (Li w1 w.heap.size hi (.slice av lv cv) L) := hL
    have HT : Hid (_ = cutT tx) := hT
    have HB : Hid (Below w.heap.size w w1) := hB
    have HH : Hid (hi ≤ w1.heap.size ∧ w.heap.size ≤ hi) := ⟨hh, hb⟩
    have HP : Hid (p ≤ n + 1 ∧ L.length ≤ p) := ⟨by have := HN.out; omega, hnL⟩
    by_cases hpn : n ≤ p
    · have RE : Hid (L = cutT tx) := by show _ = _; rw [← hT, rem_end tx p (by have := HN.out; omega), List.append_nil]
      have hpI : (n : Int) ≤ (p : Int) := by omega
      clear hL hT hB hh hb
      go_wp2_with fail
      simp only [jumps]
      go_ret
      exact ⟨_, hi, rfl, by rw [← RE.out]; exact HL.out, HB.out⟩
    have hpl : p < n := by omega
    have hpI : ((p : Int) == (n : Int)) = false := by rw [beq_eq_false_iff_ne]; omega
    have hpJ : (p : Int) < (n : Int) := by omega
    have HT : Hid (L ++ cutW (tx.drop p) [] [] = cutT tx) := by show _ = _; rw [← hT, rem_in tx p (by have := HN.out; omega)]
    have HW : Hid (Os w1 hi (.slice none 0 0) []) := Os.nil _ _
    have hnW : ([] : List Wb).length ≤ p := by simp
    clear hL hT hB hh hb
    go_upto_region 6 with fail
    go_wp2_with fail
    go_step3
    have hg := GT.out p (by omega)
    obtain ⟨c, hc⟩ : ∃ c, tx.getD p 0 = c := ⟨_, rfl⟩
    rw [hc] at hg
    have HC : Hid (tx.getD p 0 = c) := hc
    clear hc
    by_cases h10 : c = 10
    · subst h10
      go_upto_region 9 with (at_builtin; refine wp_pushLine _ rfl _ _ rfl w.heap.size hi w1.heap.size _ L rfl (HL.out.keep (al (Below.refl _ _) _)) _ (.slice none 0 0) [] rfl (cell_new rfl) ((HW.out.mono HH.out.2).keep (al (Below.refl _ _) _)) (fun k e => (HW.out.lt k e).2) HH.out.1 (by have := HN.out; have := HP.out; omega) (by have := HB.out.size; simp <;> omega) ?_; intro v2 w2 hL2 hG2)
      have L2 : Hid (Li w2 w.heap.size w1.heap.size v2 (L ++ [[]])) := hL2
      have B2 : Hid (Below w.heap.size w w2) := (al HB.out _).grown hG2 (by have := HB.out.size; simp <;> omega) (fun k e => by obtain ⟨vs, h1, _⟩ := HL.out; exact (h1.lt k e).1)
      have Z2 : Hid (w1.heap.size ≤ w2.heap.size) := by have h := hG2.size; rw [World.size_alloc] at h; show _ ≤ _; omega
      clear hL2 hG2
      go_wp2_with fail
      go_step3
      refine (show (_ ∧ _ ∧ _) from ⟨by decide, by unfold Jc; exact ⟨v2, _, p + 1, f, L ++ [[]], w1.heap.size, ⟨_, _, _, _, _, _, _, _, _, _, _, _, _, _, _, _, _, _, _, _, _, _, _, _, _, _, _, _, _, _, _, _, _, _, _, _, _, _, _, _, _, _, _, _, _, _, _, _, _, _, _, _, _, rfl⟩, L2.out, Z2.out, by have := HB.out.size; omega, by rw [← HT.out, st_10 tx p [] (by have := HN.out; omega) HC.out, List.append_assoc]; rfl, B2.out, by have := HN.out; have := HP.out; omega, by have := HP.out; simp <;> omega⟩, ?_⟩)
      show mu n 0 _ _ < mu n 0 _ _
      simp [mu, intOf] <;> (have := HN.out; have := HP.out; omega)
    have e10 : (c.toNat == 10) = false := by rw [beq_eq_false_iff_ne]; intro e; exact h10 (UInt8.toNat_inj.1 e)
    have f10 : ¬ c.toNat = 10 := fun e => h10 (UInt8.toNat_inj.1 e)
    by_cases h32 : c = 32
    · subst h32
      go_wp2_with fail
      go_step3
      refine (show (_ ∧ _ ∧ _) from ⟨by decide, by unfold Jc; exact ⟨_, _, p + 1, _, L, [], hi, ⟨_, _, _, _, _, _, _, _, _, _, _, _, _, _, _, _, _, _, _, _, _, _, _, _, _, _, _, _, _, _, _, _, _, _, _, _, _, _, _, _, _, _, _, _, _, _, _, _, _, _, _, _, _, rfl⟩, HL.out, HW.out, HH.out.1, HH.out.2, by rw [← HT.out, st_32 tx p [] (by have := HN.out; omega) HC.out], HB.out, by have := HN.out; omega, by have := HP.out; omega, by omega⟩, ?_⟩)
      show mu n 1 _ _ < mu n 0 _ _
      simp [mu, intOf] <;> (have := HN.out; have := HP.out; omega)
    have e32 : (c.toNat == 32) = false := by rw [beq_eq_false_iff_ne]; intro e; exact h32 (UInt8.toNat_inj.1 e)
    have f32 : ¬ c.toNat = 32 := fun e => h32 (UInt8.toNat_inj.1 e)
    have d10 : ((c.toNat : Int) != 10) = true := by rw [bne_iff_ne]; omega
    have d32 : ((c.toNat : Int) != 32) = true := by rw [bne_iff_ne]; omega
    go_wp2_with fail
    go_step3
    go_wp2_with fail
    go_step3
    refine (show (_ ∧ _ ∧ _) from ⟨by decide, by unfold Jc; exact ⟨_, _, p + 1, p, L, [], hi, ⟨_, _, _, _, _, _, _, _, _, _, _, _, _, _, _, _, _, _, _, _, _, _, _, _, _, _, _, _, _, _, _, _, _, _, _, _, _, _, _, _, _, _, _, _, _, _, _, _, _, _, _, _, _, rfl⟩, HL.out, HW.out, HH.out.1, HH.out.2, by rw [← HT.out, st_ch tx p [] [] (by have := HN.out; omega) (by rw [HC.out]; exact h10) (by rw [HC.out]; exact h32), seg_next tx p p (Nat.le_refl _) (by have := HN.out; omega), seg_self], HB.out, by have := HN.out; omega, by omega, by have := HP.out; omega, by omega⟩, ?_⟩)
    show mu n 2 _ _ < mu n 0 _ _
    simp [mu, intOf] <;> (have := HN.out; have := HP.out; omega)
  · rintro a w1 ⟨v, u, p, f, L, ws, hi, ⟨t7, t8, t9, t10, t11, t12, t13, t14, t15, t16, t17, t18, t19, t20, t21, t22, t23, t24, t25, t26, t27, t28, t29, t30, t31, t32, t33, t34, t35, t36, t37, t38, t39, t40, t41, t42, t43, t44, t45, t46, t47, t48, t49, t50, t51, t52, t53, t54, t55, t56, t57, t58, t59, rfl⟩, hL, hW, hh, hb, hT, hB, hp, hnL, hnW⟩
    obtain ⟨av, cv, rfl⟩ := hL.shape
    obtain ⟨lv, hlv⟩ : ∃ lv, L.length = lv := ⟨_, rfl⟩
    rw [hlv] at hL ⊢
    clear hlv
    obtain ⟨au, cu, rfl, _⟩ := hW.shape
    obtain ⟨lu, hlu⟩ : ∃ lu, ws.length = lu := ⟨_, rfl⟩
    rw [hlu] at hW ⊢
    clear hlu
    have HL : Hid (Li w1 w.heap.size hi (.slice av lv cv) L) := hL
    have HT : Hid (_ = cutT tx) := hT
    have HB : Hid (Below w.heap.size w w1) := hB
    have HH : Hid (hi ≤ w1.heap.size ∧ w.heap.size ≤ hi) := ⟨hh, hb⟩
    have HP : Hid (p ≤ n + 1 ∧ L.length ≤ p) := ⟨by have := HN.out; omega, hnL⟩
    have HW : Hid (Os w1 hi (.slice au lu cu) ws) := hW
    by_cases hpn : p = n
    · have hpn2 := hpn.symm
      clear hpn
      subst hpn2
      go_upto_region 9 with (at_builtin; refine wp_pushLine _ rfl _ _ rfl w.heap.size hi w1.heap.size _ L rfl (HL.out.keep (al (Below.refl _ _) _)) _ (.slice au lu cu) ws rfl (cell_new rfl) ((HW.out.mono HH.out.2).keep (al (Below.refl _ _) _)) (fun k e => (HW.out.lt k e).2) HH.out.1 (by have := HN.out; have := HP.out; omega) (by have := HB.out.size; simp <;> omega) ?_; intro v2 w2 hL2 hG2)
      have L2 : Hid (Li w2 w.heap.size w1.heap.size v2 (L ++ [ws])) := hL2
      have B2 : Hid (Below w.heap.size w w2) := (al HB.out _).grown hG2 (by have := HB.out.size; simp <;> omega) (fun k e => by obtain ⟨vs, h1, _⟩ := HL.out; exact (h1.lt k e).1)
      have Z2 : Hid (w1.heap.size ≤ w2.heap.size) := by have h := hG2.size; rw [World.size_alloc] at h; show _ ≤ _; omega
      clear hL2 hG2
      go_wp2_with fail
      go_step3
      refine (show (_ ∧ _ ∧ _) from ⟨by decide, by unfold Jc; exact ⟨v2, _, n + 1, f, L ++ [ws], w1.heap.size, ⟨_, _, _, _, _, _, _, _, _, _, _, _, _, _, _, _, _, _, _, _, _, _, _, _, _, _, _, _, _, _, _, _, _, _, _, _, _, _, _, _, _, _, _, _, _, _, _, _, _, _, _, _, _, rfl⟩, L2.out, Z2.out, by have := HB.out.size; omega, by rw [← HT.out, ← HN.out.1, st_end tx ws, List.append_assoc]; rfl, B2.out, by have := HN.out; have := HP.out; omega, by have := HP.out; simp <;> omega⟩, ?_⟩)
      show mu n 0 _ _ < mu n 1 _ _
      simp [mu, intOf] <;> (have := HN.out; have := HP.out; omega)
    have hpl : p < n := by have := HN.out; omega
    have hpI : ((p : Int) == (n : Int)) = false := by rw [beq_eq_false_iff_ne]; omega
    have hpJ : (p : Int) < (n : Int) := by omega
    clear hL hW hT hB hh hb
    have hg := GT.out p (by omega)
    obtain ⟨c, hc⟩ : ∃ c, tx.getD p 0 = c := ⟨_, rfl⟩
    rw [hc] at hg
    have HC : Hid (tx.getD p 0 = c) := hc
    clear hc
    by_cases h10 : c = 10
    · subst h10
      go_upto_region 9 with (at_builtin; refine wp_pushLine _ rfl _ _ rfl w.heap.size hi w1.heap.size _ L rfl (HL.out.keep (al (Below.refl _ _) _)) _ (.slice au lu cu) ws rfl (cell_new rfl) ((HW.out.mono HH.out.2).keep (al (Below.refl _ _) _)) (fun k e => (HW.out.lt k e).2) HH.out.1 (by have := HN.out; have := HP.out; omega) (by have := HB.out.size; simp <;> omega) ?_; intro v2 w2 hL2 hG2)
      have L2 : Hid (Li w2 w.heap.size w1.heap.size v2 (L ++ [ws])) := hL2
      have B2 : Hid (Below w.heap.size w w2) := (al HB.out _).grown hG2 (by have := HB.out.size; simp <;> omega) (fun k e => by obtain ⟨vs, h1, _⟩ := HL.out; exact (h1.lt k e).1)
      have Z2 : Hid (w1.heap.size ≤ w2.heap.size) := by have h := hG2.size; rw [World.size_alloc] at h; show _ ≤ _; omega
      clear hL2 hG2
      go_wp2_with fail
      go_step3
      refine (show (_ ∧ _ ∧ _) from ⟨by decide, by unfold Jc; exact ⟨v2, _, p + 1, f, L ++ [ws], w1.heap.size, ⟨_, _, _, _, _, _, _, _, _, _, _, _, _, _, _, _, _, _, _, _, _, _, _, _, _, _, _, _, _, _, _, _, _, _, _, _, _, _, _, _, _, _, _, _, _, _, _, _, _, _, _, _, _, rfl⟩, L2.out, Z2.out, by have := HB.out.size; omega, by rw [← HT.out, st_10 tx p ws (by have := HN.out; omega) HC.out, List.append_assoc]; rfl, B2.out, by have := HN.out; have := HP.out; omega, by have := HP.out; simp <;> omega⟩, ?_⟩)
      show mu n 0 _ _ < mu n 1 _ _
      simp [mu, intOf] <;> (have := HN.out; have := HP.out; omega)
    have e10 : (c.toNat == 10) = false := by rw [beq_eq_false_iff_ne]; intro e; exact h10 (UInt8.toNat_inj.1 e)
    have f10 : ¬ c.toNat = 10 := fun e => h10 (UInt8.toNat_inj.1 e)
    by_cases h32 : c = 32
    · subst h32
      go_wp2_with fail
      go_step3
      refine (show (_ ∧ _ ∧ _) from ⟨by decide, by unfold Jc; exact ⟨_, _, p + 1, _, L, ws, hi, ⟨_, _, _, _, _, _, _, _, _, _, _, _, _, _, _, _, _, _, _, _, _, _, _, _, _, _, _, _, _, _, _, _, _, _, _, _, _, _, _, _, _, _, _, _, _, _, _, _, _, _, _, _, _, rfl⟩, HL.out, HW.out, HH.out.1, HH.out.2, by rw [← HT.out, st_32 tx p ws (by have := HN.out; omega) HC.out], HB.out, by have := HN.out; omega, by have := HP.out; omega, by omega⟩, ?_⟩)
      show mu n 1 _ _ < mu n 1 _ _
      simp [mu, intOf] <;> (have := HN.out; have := HP.out; omega)
    have e32 : (c.toNat == 32) = false := by rw [beq_eq_false_iff_ne]; intro e; exact h32 (UInt8.toNat_inj.1 e)
    have f32 : ¬ c.toNat = 32 := fun e => h32 (UInt8.toNat_inj.1 e)
    have d10 : ((c.toNat : Int) != 10) = true := by rw [bne_iff_ne]; omega
    have d32 : ((c.toNat : Int) != 32) = true := by rw [bne_iff_ne]; omega
    go_wp2_with fail
    go_step3
    go_wp2_with fail
    go_step3
    refine (show (_ ∧ _ ∧ _) from ⟨by decide, by unfold Jc; exact ⟨_, _, p + 1, p, L, ws, hi, ⟨_, _, _, _, _, _, _, _, _, _, _, _, _, _, _, _, _, _, _, _, _, _, _, _, _, _, _, _, _, _, _, _, _, _, _, _, _, _, _, _, _, _, _, _, _, _, _, _, _, _, _, _, _, rfl⟩, HL.out, HW.out, HH.out.1, HH.out.2, by rw [← HT.out, st_ch tx p ws [] (by have := HN.out; omega) (by rw [HC.out]; exact h10) (by rw [HC.out]; exact h32), seg_next tx p p (Nat.le_refl _) (by have := HN.out; omega), seg_self], HB.out, by have := HN.out; omega, by omega, by have := HP.out; omega, by omega⟩, ?_⟩)
    show mu n 2 _ _ < mu n 1 _ _
    simp [mu, intOf] <;> (have := HN.out; have := HP.out; omega)
  · rintro a w1 ⟨v, u, p, f, L, ws, hi, ⟨t7, t8, t9, t10, t11, t12, t13, t14, t15, t16, t17, t18, t19, t20, t21, t22, t23, t24, t25, t26, t27, t28, t29, t30, t31, t32, t33, t34, t35, t36, t37, t38, t39, t40, t41, t42, t43, t44, t45, t46, t47, t48, t49, t50, t51, t52, t53, t54, t55, t56, t57, t58, t59, rfl⟩, hL, hW, hh, hb, hT, hB, hp, hfp, hnL, hnW⟩
    obtain ⟨av, cv, rfl⟩ := hL.shape
    obtain ⟨lv, hlv⟩ : ∃ lv, L.length = lv := ⟨_, rfl⟩
    rw [hlv] at hL ⊢
    clear hlv
    obtain ⟨au, cu, rfl, _⟩ := hW.shape
    obtain ⟨lu, hlu⟩ : ∃ lu, ws.length = lu := ⟨_, rfl⟩
    rw [hlu] at hW ⊢
    clear hlu
    have HL : Hid (Li w1 w.heap.size hi (.slice av lv cv) L) := hL
    have HT : Hid (_ = cutT tx) := hT
    have HB : Hid (Below w.heap.size w w1) := hB
    have HH : Hid (hi ≤ w1.heap.size ∧ w.heap.size ≤ hi) := ⟨hh, hb⟩
    have HP : Hid (p ≤ n + 1 ∧ L.length ≤ p) := ⟨by have := HN.out; omega, hnL⟩
    have HW : Hid (Os w1 hi (.slice au lu cu) ws) := hW
    by_cases hpn : p = n
    · have hpn2 := hpn.symm
      clear hpn
      subst hpn2
      have WE : Hid (tx.length ≤ n ∨ n < tx.length ∧ (tx.getD n 0 = 10 ∨ tx.getD n 0 = 32)) := .inl (by have := HN.out; omega)
      have hnn : ¬ (n : Int) < (n : Int) := by omega
      have hcut := CUT.out f n
      have hfI : (f : Int) ≤ (n : Int) := by omega
      have hfN : f ≤ n := by omega
      have hpN : n ≤ n := by omega
      have hpNI : (n : Int) ≤ (n : Int) := by omega
      go_upto_region 15 with fail
      go_wp2_with (at_builtin; refine wp_pushL _ rfl _ _ rfl hi _ ws rfl (HW.out.keep (al (Below.refl _ _) _)) _ (seg tx f n) rfl (cell_new (by first | rfl | simp [hcut])) (by have := HN.out; have := HP.out; omega) (by have := HH.out; simp; omega) ?_; intro u2 w2 hW2 hG2)
      have W2 : Hid (Os w2 hi u2 (ws ++ [seg tx f n])) := hW2
      have L2 : Hid (Li w2 w.heap.size hi _ L) := (HL.out.keep (al (Below.refl _ _) _)).words (HW.out.keep (al (Below.refl _ _) _)) hG2
      have B2 : Hid (Below w.heap.size w w2) := (al HB.out _).grown hG2 (by have := HB.out.size; simp <;> omega) (fun k e => by have := (HW.out.lt k e).1; have := HH.out; omega)
      have Z2 : Hid (hi ≤ w2.heap.size) := by have h := hG2.size; rw [World.size_alloc] at h; show _ ≤ _; have := HH.out; omega
      clear hW2 hG2 hcut
      go_wp2_with fail
      go_step3
      refine (show (_ ∧ _ ∧ _) from ⟨by decide, by unfold Jc; exact ⟨_, u2, n, f, L, ws ++ [seg tx f n], hi, ⟨_, _, _, _, _, _, _, _, _, _, _, _, _, _, _, _, _, _, _, _, _, _, _, _, _, _, _, _, _, _, _, _, _, _, _, _, _, _, _, _, _, _, _, _, _, _, _, _, _, _, _, _, _, rfl⟩, L2.out, W2.out, Z2.out, HH.out.2, by rw [← HT.out, st_we tx n ws (seg tx f n) (seg_ne tx f n hfp (by have := HN.out; omega)) WE.out], B2.out, by have := HN.out; omega, by have := HP.out; omega, by simp <;> omega⟩, ?_⟩)
      show mu n 1 _ _ < mu n 2 _ _
      simp [mu, intOf] <;> (have := HN.out; have := HP.out; omega)
    have hpl : p < n := by have := HN.out; omega
    have hpJ : (p : Int) < (n : Int) := by omega
    clear hL hW hT hB hh hb
    have hg := GT.out p (by omega)
    obtain ⟨c, hc⟩ : ∃ c, tx.getD p 0 = c := ⟨_, rfl⟩
    rw [hc] at hg
    have HC : Hid (tx.getD p 0 = c) := hc
    clear hc
    by_cases h32 : c = 32
    · subst h32
      have WE : Hid (tx.length ≤ p ∨ p < tx.length ∧ (tx.getD p 0 = 10 ∨ tx.getD p 0 = 32)) := .inr ⟨by have := HN.out; omega, .inr HC.out⟩
      have hcut := CUT.out f p
      have hfI : (f : Int) ≤ (p : Int) := by omega
      have hfN : f ≤ p := by omega
      have hpN : p ≤ n := by omega
      have hpNI : (p : Int) ≤ (n : Int) := by omega
      go_upto_region 15 with fail
      go_wp2_with (at_builtin; refine wp_pushL _ rfl _ _ rfl hi _ ws rfl (HW.out.keep (al (Below.refl _ _) _)) _ (seg tx f p) rfl (cell_new (by first | rfl | simp [hcut])) (by have := HN.out; have := HP.out; omega) (by have := HH.out; simp; omega) ?_; intro u2 w2 hW2 hG2)
      have W2 : Hid (Os w2 hi u2 (ws ++ [seg tx f p])) := hW2
      have L2 : Hid (Li w2 w.heap.size hi _ L) := (HL.out.keep (al (Below.refl _ _) _)).words (HW.out.keep (al (Below.refl _ _) _)) hG2
      have B2 : Hid (Below w.heap.size w w2) := (al HB.out _).grown hG2 (by have := HB.out.size; simp <;> omega) (fun k e => by have := (HW.out.lt k e).1; have := HH.out; omega)
      have Z2 : Hid (hi ≤ w2.heap.size) := by have h := hG2.size; rw [World.size_alloc] at h; show _ ≤ _; have := HH.out; omega
      clear hW2 hG2 hcut
      go_wp2_with fail
      go_step3
      refine (show (_ ∧ _ ∧ _) from ⟨by decide, by unfold Jc; exact ⟨_, u2, p, f, L, ws ++ [seg tx f p], hi, ⟨_, _, _, _, _, _, _, _, _, _, _, _, _, _, _, _, _, _, _, _, _, _, _, _, _, _, _, _, _, _, _, _, _, _, _, _, _, _, _, _, _, _, _, _, _, _, _, _, _, _, _, _, _, rfl⟩, L2.out, W2.out, Z2.out, HH.out.2, by rw [← HT.out, st_we tx p ws (seg tx f p) (seg_ne tx f p hfp (by have := HN.out; omega)) WE.out], B2.out, by have := HN.out; omega, by have := HP.out; omega, by simp <;> omega⟩, ?_⟩)
      show mu n 1 _ _ < mu n 2 _ _
      simp [mu, intOf] <;> (have := HN.out; have := HP.out; omega)
    have f32 : ¬ c.toNat = 32 := fun e => h32 (UInt8.toNat_inj.1 e)
    have d32 : ((c.toNat : Int) != 32) = true := by rw [bne_iff_ne]; omega
    by_cases h10 : c = 10
    · subst h10
      have WE : Hid (tx.length ≤ p ∨ p < tx.length ∧ (tx.getD p 0 = 10 ∨ tx.getD p 0 = 32)) := .inr ⟨by have := HN.out; omega, .inl HC.out⟩
      have hcut := CUT.out f p
      have hfI : (f : Int) ≤ (p : Int) := by omega
      have hfN : f ≤ p := by omega
      have hpN : p ≤ n := by omega
      have hpNI : (p : Int) ≤ (n : Int) := by omega
      go_upto_region 15 with fail
      go_wp2_with (at_builtin; refine wp_pushL _ rfl _ _ rfl hi _ ws rfl (HW.out.keep (al (Below.refl _ _) _)) _ (seg tx f p) rfl (cell_new (by first | rfl | simp [hcut])) (by have := HN.out; have := HP.out; omega) (by have := HH.out; simp; omega) ?_; intro u2 w2 hW2 hG2)
      have W2 : Hid (Os w2 hi u2 (ws ++ [seg tx f p])) := hW2
      have L2 : Hid (Li w2 w.heap.size hi _ L) := (HL.out.keep (al (Below.refl _ _) _)).words (HW.out.keep (al (Below.refl _ _) _)) hG2
      have B2 : Hid (Below w.heap.size w w2) := (al HB.out _).grown hG2 (by have := HB.out.size; simp <;> omega) (fun k e => by have := (HW.out.lt k e).1; have := HH.out; omega)
      have Z2 : Hid (hi ≤ w2.heap.size) := by have h := hG2.size; rw [World.size_alloc] at h; show _ ≤ _; have := HH.out; omega
      clear hW2 hG2 hcut
      go_wp2_with fail
      go_step3
      refine (show (_ ∧ _ ∧ _) from ⟨by decide, by unfold Jc; exact ⟨_, u2, p, f, L, ws ++ [seg tx f p], hi, ⟨_, _, _, _, _, _, _, _, _, _, _, _, _, _, _, _, _, _, _, _, _, _, _, _, _, _, _, _, _, _, _, _, _, _, _, _, _, _, _, _, _, _, _, _, _, _, _, _, _, _, _, _, _, rfl⟩, L2.out, W2.out, Z2.out, HH.out.2, by rw [← HT.out, st_we tx p ws (seg tx f p) (seg_ne tx f p hfp (by have := HN.out; omega)) WE.out], B2.out, by have := HN.out; omega, by have := HP.out; omega, by simp <;> omega⟩, ?_⟩)
      show mu n 1 _ _ < mu n 2 _ _
      simp [mu, intOf] <;> (have := HN.out; have := HP.out; omega)
    have f10 : ¬ c.toNat = 10 := fun e => h10 (UInt8.toNat_inj.1 e)
    have d10 : ((c.toNat : Int) != 10) = true := by rw [bne_iff_ne]; omega
    go_wp2_with fail
    go_step3
    refine (show (_ ∧ _ ∧ _) from ⟨by decide, by unfold Jc; exact ⟨_, _, p + 1, f, L, ws, hi, ⟨_, _, _, _, _, _, _, _, _, _, _, _, _, _, _, _, _, _, _, _, _, _, _, _, _, _, _, _, _, _, _, _, _, _, _, _, _, _, _, _, _, _, _, _, _, _, _, _, _, _, _, _, _, rfl⟩, HL.out, HW.out, HH.out.1, HH.out.2, by rw [← HT.out, st_ch tx p ws _ (by have := HN.out; omega) (by rw [HC.out]; exact h10) (by rw [HC.out]; exact h32), seg_next tx f p (by omega) (by have := HN.out; omega)], HB.out, by have := HN.out; omega, by omega, by have := HP.out; omega, by omega⟩, ?_⟩)
    show mu n 2 _ _ < mu n 2 _ _
    simp [mu, intOf] <;> (have := HN.out; have := HP.out; omega)
end Go.Proofs.YtdmlejfopmimfaaGreatDoor
