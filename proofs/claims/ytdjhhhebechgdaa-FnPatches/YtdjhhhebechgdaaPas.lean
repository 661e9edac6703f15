/- An image is patched, by the model. -/
import Derived.Test.YtdjhhhebechgdaaPai
import Derived.Test.YtdjhhhebechgdaaMem
namespace Go.Proofs.Ytdjhhhebechgdaa
open Go.RowKit
set_option linter.unusedVariables false

/-- append of numbers that lie anywhere, or of none, to a slice of the call's own. -/
theorem wp_appp14 {ops : Array Oper} {rest : List Oper} {o : Oper} {act : Act} {Q : Exit → Act → World → Prop} (w : World) (hgd : o.guard = none) (s x : Operand)
    (ho : o.op = .call { callee := .builtin .append, args := #[s, x], argTypes := #[24, 24] }) (base : Nat) (v : Value) (zs : List Int) (hs : act.eval s = v) (hN : Nums w base v zs)
    (p : Option Addr) (m c : Nat) (ys : List Int) (hx : act.eval x = .slice p m c) (hR : Rn w p m c ys)
    (hlen : zs.length + m ≤ 1000000000) (hbase : base ≤ w.heap.size)
    (h : ∀ v' w', Nums w' base v' (zs ++ ys) → w.grownBy w' v.ownBlock → wpList Try.prog ops Q rest (act.put o.dst v') w') : wpList Try.prog ops Q (o :: rest) act w := by
  cases p with
  | some p => exact wp_appx w hgd s x ho base v zs hs hN p m c ys hx hR hlen hbase h
  | none =>
    obtain ⟨h1, h2, h3⟩ : m = 0 ∧ c = 0 ∧ ys = [] := by
      rcases hR with ⟨_, h1, h2, h3⟩ | ⟨x, e, _⟩
      · exact ⟨h1, h2, h3⟩
      · cases e
    subst h1 h2 h3
    obtain ⟨i, hi, hz0, hz1, hz2⟩ := info_parts info_i64
    exact wpList_append_own_none hgd s x 24 ho base 2 i 1 Try.underlying24 hi v zs.length _ hs hN hx (h v w (by rw [List.append_nil]; exact hN) (World.grownBy.refl _ _))

theorem Nums.put3 {w : World} {g : Nat} {v : Value} {zs : List Int} (h : Nums w (g + 1) v zs) (x0 x1 x2 : Value) : Nums (((w.setCell ⟨g, 0, none⟩ x0).setCell ⟨g, 1, none⟩ x1).setCell ⟨g, 2, none⟩ x2) g v zs := by
  have hn : v.ownBlock ≠ some g := fun e => by have := (h.lt g e).1; omega
  exact (((h.mono (Nat.le_succ _)).put _ _ hn).put _ _ hn).put _ _ hn
theorem Rn.take {w : World} {a : Option Addr} {n cap : Nat} {zs : List Int} (h : Rn w a n cap zs) (k : Nat) (hk : k ≤ n) : Rn w a k cap (zs.take k) := by
  rcases h with ⟨h1, h2, h3, h4⟩ | ⟨x, h1, h2, h3, h4, h5⟩
  · subst h4; exact .inl ⟨h1, by omega, h3, by simp⟩
  · exact .inr ⟨x, h1, by omega, h3, by simp; omega, fun i hi => by rw [h5 i (by omega)]; simp [List.getD, hi]⟩
theorem Rn.drop {w : World} {x : Addr} {n cap : Nat} {zs : List Int} (h : Rn w (some x) n cap zs) (k : Nat) (hk : k ≤ n) : Rn w (some (x.add k)) (n - k) (cap - k) (zs.drop k) := by
  rcases h with ⟨h1, h2, h3, h4⟩ | ⟨y, h1, h2, h3, h4, h5⟩
  · cases h1
  · cases h1
    refine .inr ⟨_, rfl, by omega, by omega, by simp; omega, fun i hi => ?_⟩
    have := h5 (k + i) (by omega)
    rw [show (x.add k).add i = x.add (k + i) by unfold Addr.add; by_cases h1 : k = 0 <;> by_cases h2 : i = 0 <;> simp [h1, h2, Nat.add_assoc], this]
    simp [List.getD]
set_option maxHeartbeats 1000000 in
theorem s_copyR (a : Option Addr) (n cap : Nat) (zs : List Int) (w : World) (h : Rn w a n cap zs) (hn : n ≤ 1000000) :
    Calls Try.prog 16 #[.slice a n cap] w fun e w' => ∃ v, e = .returned v ∧ Nums w' w.heap.size v zs ∧ Below w.heap.size w w' := by
  have HZ : Hid (Rn w a n cap zs) := h
  have HL : Hid (n ≤ 1000000) := hn
  clear h hn
  go_enter Try.func16, Try.ntmps16
  go_wp2_with (at_builtin; refine wp_appp14 _ rfl _ _ rfl w.heap.size _ [] rfl (nums_none w w.heap.size (Nat.le_refl _)) a n cap zs rfl (HZ.out.stay (al (Below.refl _ _) _)) (by have := HL.out; simp; omega) (by simp) ?_; intro v' w' hN' hG')
  have N' : Hid (Nums w' w.heap.size v' zs) := by rw [List.nil_append] at hN'; exact hN'
  have B' : Hid (Below w.heap.size w w') := (al (Below.refl _ _) _).grown hG' (by simp) (fun k hk => Nat.le_of_eq (Option.some.inj hk))
  clear hN' hG'
  go_wp2_with fail
  go_ret
  exact ⟨_, rfl, N'.out, B'.out⟩
theorem ps_in (k n : Nat) (hk : k ≤ n) : (decide ((0 : Int) ≤ (k : Int)) && decide ((k : Int) ≤ (n : Int))) = true := by
  rw [decide_eq_true (by omega), decide_eq_true (by omega)]; rfl
set_option maxHeartbeats 1000000 in
theorem sp_bad (a a' : Option Addr) (n cap m cap' : Nat) (at_ : Int) (w : World) (h : at_ < 0 ∨ (n : Int) < at_) :
    Calls Try.prog 7 #[.slice a n cap, .int .i64 at_, .slice a' m cap'] w fun e w' => e = .returned (.agg #[.int .i64 3, .int .i64 0, .slice none 0 0]) ∧ Below w.heap.size w w' := by
  have hd : (decide (0 ≤ at_) && decide (at_ ≤ (n : Int))) = false := by
    rcases h with h | h
    · rw [decide_eq_false (by omega)]; rfl
    · rw [Bool.and_eq_false_iff]; exact .inr (decide_eq_false (by omega))
  clear h
  go_enter Try.func7, Try.ntmps7
  go_wp2_with (go_at_call 14; refine (spec_in _ _ _ _).mono ?_; rintro e x ⟨rfl, rfl⟩; rw [hd])
  exact bodyPost_ret (v := .agg #[.int .i64 3, .int .i64 0, .slice none 0 0]) (by simp [results, Try.results7, go_sem]) rfl ⟨rfl, al (Below.refl _ _) _⟩
set_option maxHeartbeats 1000000 in
theorem sp_many (a a' : Option Addr) (n cap m cap' k : Nat) (w : World) (hk : k ≤ n) (hx : 80 < n ∨ 80 < k + m) (hn : n ≤ 1048576) (hm : m ≤ 1048576) :
    Calls Try.prog 7 #[.slice a n cap, .int .i64 k, .slice a' m cap'] w fun e w' => e = .returned (.agg #[.int .i64 2, .int .i64 0, .slice none 0 0]) ∧ Below w.heap.size w w' := by
  have hd := ps_in k n hk
  have hsI : (k : Int) + m ≤ 9223372036854775807 := by omega
  have hcs : decide (80 < (k : Int) + m) = true ∨ decide (80 < (k : Int) + m) = false ∧ decide (80 < (n : Int)) = true := by
    by_cases h : 80 < k + m
    · exact .inl (decide_eq_true (by omega))
    · exact .inr ⟨decide_eq_false (by omega), decide_eq_true (by omega)⟩
  clear hx hn hm
  rcases hcs with c1 | ⟨c1, c2⟩
  all_goals
    go_enter Try.func7, Try.ntmps7
    go_wp2_with (go_at_call 14; refine (spec_in _ _ _ _).mono ?_; rintro e x ⟨rfl, rfl⟩; rw [hd])
    exact bodyPost_ret (v := .agg #[.int .i64 2, .int .i64 0, .slice none 0 0]) (by simp [results, Try.results7, go_sem]) rfl ⟨rfl, al (Below.refl _ _) _⟩
set_option maxHeartbeats 1000000 in
theorem sp_zs (a a' : Option Addr) (n cap m cap' k : Nat) (zs : List Int) (w : World) (h : Rn w a n cap zs) (e1 : zs.all isW = false) (hk : k ≤ n) (hx : n ≤ 80) (hx2 : k + m ≤ 80) :
    Calls Try.prog 7 #[.slice a n cap, .int .i64 k, .slice a' m cap'] w fun e w' => e = .returned (.agg #[.int .i64 3, .int .i64 0, .slice none 0 0]) ∧ Below w.heap.size w w' := by
  have RZ : Hid (Rn w a n cap zs) := h
  have hd := ps_in k n hk
  have hsI : (k : Int) + m ≤ 80 := by omega
  have hxI : (n : Int) ≤ 80 := by omega
  have hw : ∀ w, Rn w a n cap zs → Calls Try.prog 15 #[.slice a n cap] w fun e w' => e = .returned (.bool false) ∧ w' = w := fun w h => by have := s_words a _ cap zs w h; rw [e1] at this; exact this
  clear h e1 hx hx2
  go_enter Try.func7, Try.ntmps7
  go_wp2_with (first | (go_at_call 14; refine (spec_in _ _ _ _).mono ?_; rintro e x ⟨rfl, rfl⟩; rw [hd]) | (go_at_call 15; refine (hw _ (RZ.out.stay (al (Below.refl _ _) _))).mono ?_; rintro e x ⟨rfl, rfl⟩))
  exact bodyPost_ret (v := .agg #[.int .i64 3, .int .i64 0, .slice none 0 0]) (by simp [results, Try.results7, go_sem]) rfl ⟨rfl, al (Below.refl _ _) _⟩
set_option maxHeartbeats 1000000 in
theorem sp_ys (a a' : Option Addr) (n cap m cap' k : Nat) (zs ys : List Int) (w : World) (h : Rn w a n cap zs) (h' : Rn w a' m cap' ys) (e1 : zs.all isW = true) (e2 : ys.all isW = false) (hk : k ≤ n) (hx : n ≤ 80) (hx2 : k + m ≤ 80) :
    Calls Try.prog 7 #[.slice a n cap, .int .i64 k, .slice a' m cap'] w fun e w' => e = .returned (.agg #[.int .i64 3, .int .i64 0, .slice none 0 0]) ∧ Below w.heap.size w w' := by
  have RZ : Hid (Rn w a n cap zs) := h
  have RY : Hid (Rn w a' m cap' ys) := h'
  have hd := ps_in k n hk
  have hsI : (k : Int) + m ≤ 80 := by omega
  have hxI : (n : Int) ≤ 80 := by omega
  have hw : ∀ w, Rn w a n cap zs → Calls Try.prog 15 #[.slice a n cap] w fun e w' => e = .returned (.bool true) ∧ w' = w := fun w h => by have := s_words a _ cap zs w h; rw [e1] at this; exact this
  have hw2 : ∀ w, Rn w a' m cap' ys → Calls Try.prog 15 #[.slice a' m cap'] w fun e w' => e = .returned (.bool false) ∧ w' = w := fun w h => by have := s_words a' _ cap' ys w h; rw [e2] at this; exact this
  clear h h' e1 e2 hx hx2
  go_enter Try.func7, Try.ntmps7
  go_wp2_with (go_at_call 14; refine (spec_in _ _ _ _).mono ?_; rintro e x ⟨rfl, rfl⟩; rw [hd])
  refine (hw _ (RZ.out.stay (al (Below.refl _ _) _))).mono ?_
  rintro e x ⟨rfl, rfl⟩
  go_wp2_with fail
  refine (hw2 _ (RY.out.stay (al (Below.refl _ _) _))).mono ?_
  rintro e x ⟨rfl, rfl⟩
  go_wp2_with fail
  exact bodyPost_ret (v := .agg #[.int .i64 3, .int .i64 0, .slice none 0 0]) (by simp [results, Try.results7, go_sem]) rfl ⟨rfl, al (Below.refl _ _) _⟩
set_option maxHeartbeats 1000000 in
theorem sp_good (a a' : Option Addr) (n cap m cap' k : Nat) (zs ys : List Int) (w : World) (h : Rn w a n cap zs) (h' : Rn w a' m cap' ys) (e1 : zs.all isW = true) (e2 : ys.all isW = true) (hk : k ≤ n) (hx : n ≤ 80) (hx2 : k + m ≤ 80) :
    Calls Try.prog 7 #[.slice a n cap, .int .i64 k, .slice a' m cap'] w fun e w' => ∃ r, e = .returned (.agg #[.int .i64 0, .int .i64 0, r]) ∧ Nums w' w.heap.size r (zs.take k ++ ys ++ zs.drop (k + ys.length)) ∧ Below w.heap.size w w' := by
  have RZ : Hid (Rn w a n cap zs) := h
  have RY : Hid (Rn w a' m cap' ys) := h'
  have RK : Hid (Rn w a k cap (zs.take k)) := h.take k hk
  have LZ : Hid (n = zs.length ∧ m = ys.length ∧ k ≤ n ∧ n ≤ 80 ∧ k + m ≤ 80) := ⟨h.len, h'.len, hk, hx, hx2⟩
  have hd := ps_in k n hk
  obtain ⟨R, hR⟩ : ∃ R, zs.take k ++ ys ++ zs.drop (k + ys.length) = R := ⟨_, rfl⟩
  rw [hR]
  have HR : Hid (zs.take k ++ ys ++ zs.drop (k + ys.length) = R) := hR
  have hsI : (k : Int) + m ≤ 80 := by omega
  have hxI : (n : Int) ≤ 80 := by omega
  have hcI : (n : Int) ≤ (cap : Int) := by have := h.cap; omega
  have hw : ∀ w, Rn w a n cap zs → Calls Try.prog 15 #[.slice a n cap] w fun e w' => e = .returned (.bool true) ∧ w' = w := fun w h => by have := s_words a _ cap zs w h; rw [e1] at this; exact this
  have hw2 : ∀ w, Rn w a' m cap' ys → Calls Try.prog 15 #[.slice a' m cap'] w fun e w' => e = .returned (.bool true) ∧ w' = w := fun w h => by have := s_words a' _ cap' ys w h; rw [e2] at this; exact this
  clear h h' e1 e2 hx hx2 hR
  go_enter Try.func7, Try.ntmps7
  go_wp2_with (go_at_call 14; refine (spec_in _ _ _ _).mono ?_; rintro e x ⟨rfl, rfl⟩; rw [hd])
  refine (hw _ (RZ.out.stay (al (Below.refl _ _) _))).mono ?_
  rintro e x ⟨rfl, rfl⟩
  go_wp2_with fail
  refine (hw2 _ (RY.out.stay (al (Below.refl _ _) _))).mono ?_
  rintro e x ⟨rfl, rfl⟩
  go_wp2_with fail
  refine (s_copyR a k cap _ _ (RK.out.stay (al (Below.refl _ _) _)) (by have := LZ.out; omega)).mono ?_
  rintro e w1 ⟨v1, rfl, n1, b1⟩
  have V1 : Hid (Vb w1 w.heap.size #[.int .i64 0, .int .i64 0, .slice none 0 0] 28) := (Vb.new _ _ _).keep b1
  have N1 : Hid (Nums w1 (w.heap.size + 1) v1 (zs.take k)) := by have h := n1; rw [World.size_alloc] at h; exact h
  have B1 : Hid (Below w.heap.size w w1) := on (al (Below.refl _ _) _) b1
  have S1 : Hid (w.heap.size + 1 ≤ w1.heap.size) := by have h := b1.size; rw [World.size_alloc] at h; exact h
  clear n1 b1
  go_upto_region 9 with (at_builtin; refine wp_appp14 _ rfl _ _ rfl (w.heap.size + 1) v1 _ rfl N1.out a' m cap' ys rfl (RY.out.stay B1.out) (by have := LZ.out; simp; omega) S1.out ?_; intro v2 w2 hN2 hG2)
  have N2 : Hid (Nums w2 (w.heap.size + 1) v2 (zs.take k ++ ys)) := hN2
  have V2 : Hid (Vb w2 w.heap.size #[.int .i64 0, .int .i64 0, .slice none 0 0] 28) := V1.out.gr hG2 (fun e => by have := (N1.out.lt _ e.symm).1; omega)
  have B2 : Hid (Below w.heap.size w w2) := B1.out.grown hG2 (by have := S1.out; omega) (fun j hj => by have := (N1.out.lt j hj).1; omega)
  have S2 : Hid (w.heap.size + 1 ≤ w2.heap.size) := by show _ ≤ _; have := hG2.size; have := S1.out; omega
  clear hN2 hG2 N1 V1 B1 S1
  by_cases hks : k + m < n
  · have hksI : (k : Int) + m < (n : Int) := by omega
    obtain ⟨x, rfl, _⟩ := RZ.out.at 0 (by omega)
    have RD : Hid (Rn w (some (x.add (k + m))) (n - (k + m)) (cap - (k + m)) (zs.drop (k + m))) := RZ.out.drop _ (by omega)
    have hne : ¬ cap = k + m := by omega
    obtain ⟨q, hq⟩ : ∃ q : Nat, k + m = q := ⟨_, rfl⟩
    have hqI : (k : Int) + (m : Int) = (q : Int) := by omega
    rw [hq] at RD
    have hqn : (q : Int) < (n : Int) := by omega
    have hqc : ¬ cap = q := by omega
    have hqL : (q : Int) ≤ (n : Int) := by omega
    have HQ : Hid (k + m = q) := hq
    clear hksI hne hq
    go_upto_region 11 with fail
    go_upto_region 12 with (at_builtin; refine wp_appp14 _ rfl _ _ rfl (w.heap.size + 1) v2 _ rfl N2.out (some (x.add q)) (n - q) (cap - q) (zs.drop q) rfl (RD.out.stay B2.out) (by have := LZ.out; have := HQ.out; simp; omega) S2.out ?_; intro v3 w3 hN3 hG3)
    have N3 : Hid (Nums w3 (w.heap.size + 1) v3 (zs.take k ++ ys ++ zs.drop q)) := hN3
    have V3 : Hid (Vb w3 w.heap.size #[.int .i64 0, .int .i64 0, .slice none 0 0] 28) := V2.out.gr hG3 (fun e => by have := (N2.out.lt _ e.symm).1; omega)
    have B3 : Hid (Below w.heap.size w w3) := B2.out.grown hG3 (by have := S2.out; omega) (fun j hj => by have := (N2.out.lt j hj).1; omega)
    clear hN3 hG3 N2 V2 B2 S2
    have hZ : zs.take k ++ ys ++ zs.drop (k + ys.length) = zs.take k ++ ys ++ zs.drop q := by rw [show k + ys.length = q by have := LZ.out; have := HQ.out; omega]
    have N3 : Hid (Nums w3 (w.heap.size + 1) v3 R) := by show Nums _ _ _ _; rw [← HR.out, hZ]; exact N3.out
    clear hZ
    have k0 := V3.out.cell 0 rfl
    have k1 := V3.out.cell 1 rfl
    have k2 := V3.out.cell 2 rfl
    have f0 := V3.out.free 0
    have f1 := V3.out.free 1
    have f2 := V3.out.free 2
    have ls := V3.out.lt
    obtain ⟨a2, c2, rfl, _, _, _⟩ := N3.out.shape
    generalize R.length = L at *
    go_wp2_with fail
    exact bodyPost_ret (v := .agg #[.int .i64 0, .int .i64 0, .slice a2 L c2]) (by simp [results, Try.results7, go_sem, k0, k1, k2]) rfl ⟨_, rfl, N3.out.put3 _ _ _, ((B3.out.setCell (by simp) _).setCell (by simp) _).setCell (by simp) _⟩
  · have hksI : ¬ (k : Int) + m < (n : Int) := by omega
    have hZ : zs.take k ++ ys ++ zs.drop (k + ys.length) = zs.take k ++ ys := by rw [List.drop_eq_nil_of_le (by have := LZ.out; omega), List.append_nil]
    have N2b : Hid (Nums w2 (w.heap.size + 1) v2 R) := by show Nums _ _ _ _; rw [← HR.out, hZ]; exact N2.out
    clear hZ N2
    have k0 := V2.out.cell 0 rfl
    have k1 := V2.out.cell 1 rfl
    have k2 := V2.out.cell 2 rfl
    have f0 := V2.out.free 0
    have f1 := V2.out.free 1
    have f2 := V2.out.free 2
    have ls := V2.out.lt
    obtain ⟨a2, c2, rfl, _, _, _⟩ := N2b.out.shape
    generalize R.length = L at *
    go_wp2_with fail
    exact bodyPost_ret (v := .agg #[.int .i64 0, .int .i64 0, .slice a2 L c2]) (by simp [results, Try.results7, go_sem, k0, k1, k2]) rfl ⟨_, rfl, N2b.out.put3 _ _ _, ((B2.out.setCell (by simp) _).setCell (by simp) _).setCell (by simp) _⟩
theorem s_patch (v u : Value) (zs ys : List Int) (at_ : Int) (b b' : Nat) (w : World) (h : Nums w b v zs) (h' : Nums w b' u ys) (hz : zs.length ≤ 1048576) (hy : ys.length ≤ 1048576) :
    Calls Try.prog 7 #[v, .int .i64 at_, u] w fun e w' => ∃ r, e = .returned (.agg #[.int .i64 (paC zs at_ ys), .int .i64 0, r]) ∧ Nums w' w.heap.size r (paZ zs at_ ys) ∧ Below w.heap.size w w' := by
  obtain ⟨a, cap, rfl, _, _, _⟩ := h.shape
  obtain ⟨a', cap', rfl, _, _, _⟩ := h'.shape
  have RZ := h.rn
  have RY := h'.rn
  by_cases c1 : at_ < 0 ∨ (zs.length : Int) < at_
  · have hc : paC zs at_ ys = 3 := by rw [paC, if_pos c1]
    rw [hc, paZ_bad (by rw [hc]; decide)]
    exact (sp_bad a a' _ cap _ cap' at_ w c1).mono fun e w' ⟨h1, h2⟩ => ⟨_, h1, Nums.nil _ _, h2⟩
  obtain ⟨k, rfl⟩ : ∃ k : Nat, at_ = k := ⟨at_.toNat, by omega⟩
  by_cases c2 : 80 < zs.length ∨ 80 < k + ys.length
  · have hc : paC zs k ys = 2 := by rw [paC, if_neg c1, Int.toNat_natCast, if_pos c2]
    rw [hc, paZ_bad (by rw [hc]; decide)]
    exact (sp_many a a' _ cap _ cap' k w (by omega) c2 hz hy).mono fun e w' ⟨h1, h2⟩ => ⟨_, h1, Nums.nil _ _, h2⟩
  have hcc : paC zs k ys = if (zs.all isW && ys.all isW) = false then 3 else 0 := by rw [paC, if_neg c1, Int.toNat_natCast, if_neg c2]
  cases e1 : zs.all isW
  · have hc : paC zs k ys = 3 := by rw [hcc, e1]; rfl
    rw [hc, paZ_bad (by rw [hc]; decide)]
    exact (sp_zs a a' _ cap _ cap' k zs w RZ e1 (by omega) (by omega) (by omega)).mono fun e w' ⟨h1, h2⟩ => ⟨_, h1, Nums.nil _ _, h2⟩
  cases e2 : ys.all isW
  · have hc : paC zs k ys = 3 := by rw [hcc, e1, e2]; rfl
    rw [hc, paZ_bad (by rw [hc]; decide)]
    exact (sp_ys a a' _ cap _ cap' k zs ys w RZ RY e1 e2 (by omega) (by omega) (by omega)).mono fun e w' ⟨h1, h2⟩ => ⟨_, h1, Nums.nil _ _, h2⟩
  have hc : paC zs k ys = 0 := by rw [hcc, e1, e2]; rfl
  have hZ : paZ zs k ys = zs.take k ++ ys ++ zs.drop (k + ys.length) := by rw [paZ, if_pos hc, Int.toNat_natCast]
  rw [hc, hZ]
  exact sp_good a a' _ cap _ cap' k zs ys w RZ RY e1 e2 (by omega) (by omega) (by omega)
end Go.Proofs.Ytdjhhhebechgdaa
